import Derived.Test.YtmkmnedojgigoaaP5
import Derived.Test.YtmkmnedojgigoaaQ3
namespace Go.Proofs.Ytmkmnedojgigoaa
open Go.RowKit

theorem own_slice {w : World} {base : Nat} {e : TypeId} {v : Value} {n : Nat} {xs : List Value} (h : w.ownsRow base e 1 v n xs) : ∃ a c, v = .slice a n c := by
  rcases h.2 with ⟨rfl, hz⟩ | ⟨g, cap, cur, rfl, _⟩
  · exact ⟨none, 0, by rw [hz]⟩
  · exact ⟨_, _, rfl⟩

def lenOf : Value → Nat
  | .slice _ n _ => n
  | _ => 0
def WorksP (w : World) (e : Ending) (w' : World) : Prop := e = .returned (.bool true) ∧ Below w.heap.size w w'

set_option maxRecDepth 100000 in
set_option maxHeartbeats 1000000 in
theorem around_not (r : Int) (an ac : Option Addr) (cn cc : Nat) (N C : List Int) (p k : Int) (w : World) (hN : Ints w an N) (hC : Ints w ac C) (hw : isWhl r N C = false) :
    Calls Try.prog 9 #[.agg #[.int .i64 r, .slice an N.length cn, .slice ac C.length cc], .int .i64 p, .int .i64 k] w (WorksP w) := by
  obtain ⟨W, hW, hb, hs, x0⟩ := boxes1 w #[.int .i64 r, .slice an N.length cn, .slice ac C.length cc] 24
  clear hs
  replace hN := hN.below hb (Nat.le_refl _); replace hC := hC.below hb (Nat.le_refl _)
  have c0 := x0.cell 0 rfl; have c1 := x0.cell 1 rfl; have c2 := x0.cell 2 rfl
  go_enter Try.func9, Try.ntmps9
  go_wp2_with fail
  refine (isWheel_any _ _ _ _ _ _ _ _ hN hC).mono ?_
  rintro e W1 ⟨rfl, hb1⟩
  rw [hw]
  replace hb := hb.trans (hb1.mono hb.size)
  clear hN hC x0 c0 c1 c2 hb1 hW
  go_wp2_with fail
  refine (works_any _).mono ?_
  rintro e W2 ⟨rfl, hb1⟩
  replace hb := hb.trans (hb1.mono hb.size)
  clear hb1
  go_wp2
  go_ret
  exact ⟨rfl, hb⟩

def argAr (R : Nat) (C : List Int) (p k : Int) : Bool := inR 0 p (R - 1) && (decide (0 ≤ k) && decide (k < (C.length : Int)))

set_option maxRecDepth 100000 in
set_option maxHeartbeats 1000000 in
theorem around_arg (R : Nat) (an ac : Option Addr) (cn cc : Nat) (N C : List Int) (p k : Int) (w : World) (hN : Ints w an N) (hC : Ints w ac C) (hw : isWhl (R : Int) N C = true) (hv : Vw R N C) (ho : argAr R C p k = false) :
    Calls Try.prog 9 #[.agg #[.int .i64 (R : Int), .slice an N.length cn, .slice ac C.length cc], .int .i64 p, .int .i64 k] w (WorksP w) := by
  obtain ⟨W, hW, hb, hs, x0⟩ := boxes1 w #[.int .i64 (R : Int), .slice an N.length cn, .slice ac C.length cc] 24
  clear hs
  have c4 := hv.c4
  replace hN := hN.below hb (Nat.le_refl _); replace hC := hC.below hb (Nat.le_refl _)
  have c0 := x0.cell 0 rfl; have c1 := x0.cell 1 rfl; have c2 := x0.cell 2 rfl
  cases hp : inR 0 p ((R : Int) - 1)
  · go_enter Try.func9, Try.ntmps9
    go_wp2_with fail
    refine (isWheel_any _ _ _ _ _ _ _ _ hN hC).mono ?_
    rintro e W1 ⟨rfl, hb1⟩
    rw [hw]
    clear hW
    replace hN := hN.below hb1 (Nat.le_refl _); replace hC := hC.below hb1 (Nat.le_refl _); (try clear c0 c1 c2); replace x0 := x0.below hb1; have c0 := x0.cell 0 rfl; have c1 := x0.cell 1 rfl; have c2 := x0.cell 2 rfl; replace hb := hb.trans (hb1.mono hb.size); clear hb1
    go_wp2_with fail
    refine (rIsPlace_any _ _ _ _ _ _ _ p _ hv).mono ?_
    rintro e W2 ⟨rfl, hb1⟩
    rw [hp]
    replace hb := hb.trans (hb1.mono hb.size)
    clear hN hC x0 c0 c1 c2 hb1
    go_wp2_with fail
    refine (works_any _).mono ?_
    rintro e W3 ⟨rfl, hb1⟩
    replace hb := hb.trans (hb1.mono hb.size)
    clear hb1
    go_wp2
    go_ret
    exact ⟨rfl, hb⟩
  · have hk : (decide (k < 0) || decide ((C.length : Int) ≤ k)) = true := by
      unfold argAr at ho
      rw [hp, Bool.true_and] at ho
      simp at ho ⊢
      omega
    clear ho
    rcases (show k < 0 ∨ 0 ≤ k by omega) with hk0 | hk0
    · have hkB : decide (k < 0) = true := by simp; omega
      clear hk
      go_enter Try.func9, Try.ntmps9
      go_wp2_with fail
      refine (isWheel_any _ _ _ _ _ _ _ _ hN hC).mono ?_
      rintro e W1 ⟨rfl, hb1⟩
      rw [hw]
      clear hW
      replace hN := hN.below hb1 (Nat.le_refl _); replace hC := hC.below hb1 (Nat.le_refl _); (try clear c0 c1 c2); replace x0 := x0.below hb1; have c0 := x0.cell 0 rfl; have c1 := x0.cell 1 rfl; have c2 := x0.cell 2 rfl; replace hb := hb.trans (hb1.mono hb.size); clear hb1
      go_wp2_with fail
      refine (rIsPlace_any _ _ _ _ _ _ _ p _ hv).mono ?_
      rintro e W2 ⟨rfl, hb1⟩
      rw [hp]
      replace hN := hN.below hb1 (Nat.le_refl _); replace hC := hC.below hb1 (Nat.le_refl _); (try clear c0 c1 c2); replace x0 := x0.below hb1; have c0 := x0.cell 0 rfl; have c1 := x0.cell 1 rfl; have c2 := x0.cell 2 rfl; replace hb := hb.trans (hb1.mono hb.size); clear hb1
      go_wp2_with fail
      refine (works_any _).mono ?_
      rintro e W3 ⟨rfl, hb1⟩
      replace hb := hb.trans (hb1.mono hb.size)
      clear hb1
      go_wp2
      go_ret
      exact ⟨rfl, hb⟩
    · have hkC : (C.length : Int) ≤ k := by simp at hk; omega
      clear hk
      go_enter Try.func9, Try.ntmps9
      go_wp2_with fail
      refine (isWheel_any _ _ _ _ _ _ _ _ hN hC).mono ?_
      rintro e W1 ⟨rfl, hb1⟩
      rw [hw]
      clear hW
      replace hN := hN.below hb1 (Nat.le_refl _); replace hC := hC.below hb1 (Nat.le_refl _); (try clear c0 c1 c2); replace x0 := x0.below hb1; have c0 := x0.cell 0 rfl; have c1 := x0.cell 1 rfl; have c2 := x0.cell 2 rfl; replace hb := hb.trans (hb1.mono hb.size); clear hb1
      go_wp2_with fail
      refine (rIsPlace_any _ _ _ _ _ _ _ p _ hv).mono ?_
      rintro e W2 ⟨rfl, hb1⟩
      rw [hp]
      replace hN := hN.below hb1 (Nat.le_refl _); replace hC := hC.below hb1 (Nat.le_refl _); (try clear c0 c1 c2); replace x0 := x0.below hb1; have c0 := x0.cell 0 rfl; have c1 := x0.cell 1 rfl; have c2 := x0.cell 2 rfl; replace hb := hb.trans (hb1.mono hb.size); clear hb1
      go_wp2_with fail
      refine (works_any _).mono ?_
      rintro e W3 ⟨rfl, hb1⟩
      replace hb := hb.trans (hb1.mono hb.size)
      clear hb1
      go_wp2
      go_ret
      exact ⟨rfl, hb⟩

theorem rep_kinds {C : List Int} {k n : Nat} (hk : k < C.length) : (List.replicate n (k : Int)).all (isKindB C) = true :=
  List.all_eq_true.2 fun x hx => by rw [List.eq_of_mem_replicate hx]; exact inR_iff.2 (by omega)
theorem around_plays {R : Nat} {N C : List Int} (hv : Vw R N C) {p k n q : Nat} (hp : p < R) (hk : k < C.length) (hn : n ≤ 20) (hq : q = n * cw C k) (hm : q % R = 0) :
    plV R N C p (List.replicate n (k : Int)) = ((q / R * N.length : Nat) : Int) ∧ plE R C p (List.replicate n (k : Int)) = 0 := by
  have hok : okPlays R C p (List.replicate n (k : Int)) = true := by
    simp only [okPlays, Bool.and_eq_true, decide_eq_true_eq]
    exact ⟨inR_iff.2 (by omega), by simpa using hn, rep_kinds hk⟩
  have hqr : q / R * R = q := Nat.div_mul_cancel (Nat.dvd_of_mod_eq_zero hm)
  have h := gv_round (N := N) hv.r1 p (q / R)
  rw [hqr] at h
  rw [plV, plE, if_pos hok, if_pos hok, tot_rep, Int.toNat_natCast, Int.toNat_natCast, ← hq, h]
  exact ⟨rfl, rfl⟩
theorem around_run {R : Nat} {N C : List Int} (hv : Vw R N C) {p k n q : Nat} (hp : p < R) (hk : k < C.length) (hn : n ≤ 20) (hq : q = n * cw C k) (hm : q % R = 0) :
    runL R N C ⟨p, 0⟩ 0 (List.replicate n (k : Int)) = (⟨p, q / R * N.length⟩, 0) ∧ okRun R C p (0 : Nat) (List.replicate n (k : Int)) = true := by
  have hqr : q / R * R = q := Nat.div_mul_cancel (Nat.dvd_of_mod_eq_zero hm)
  have h := gv_round (N := N) hv.r1 p (q / R)
  rw [hqr] at h
  have hr := run_kinds hv (List.replicate n (k : Int)) p 0 0 (rep_kinds hk)
  rw [Nat.mod_eq_of_lt hp, tot_rep, Int.toNat_natCast, ← hq, h, Nat.add_mod, hm, Nat.add_zero, Nat.mod_mod, Nat.mod_eq_of_lt hp, Nat.zero_add] at hr
  refine ⟨hr, ?_⟩
  simp only [okRun, Bool.and_eq_true, decide_eq_true_eq]
  refine ⟨⟨inR_iff.2 (by omega), inR_iff.2 (by omega)⟩, by simpa using hn, List.all_eq_true.2 fun x hx => ?_⟩
  rw [List.eq_of_mem_replicate hx]
  simp only [isActB, Bool.or_eq_true]
  exact .inr (inR_iff.2 (by omega))

set_option maxRecDepth 100000 in
set_option maxHeartbeats 2000000 in
theorem around_ok (R : Nat) (an ac : Option Addr) (cn cc : Nat) (N C : List Int) (p k : Nat) (w : World) (hN : Ints w an N) (hC : Ints w ac C) (hw : isWhl (R : Int) N C = true) (hv : Vw R N C) (hp : p < R) (hk : k < C.length) :
    Calls Try.prog 9 #[.agg #[.int .i64 (R : Int), .slice an N.length cn, .slice ac C.length cc], .int .i64 p, .int .i64 k] w (WorksP w) := by
  obtain ⟨j0, hj, jz0, jz1, jz2⟩ := info_parts info3
  have r1 := hv.r1
  have r2 := hv.r2
  have c4 := hv.c4
  have hpB : inR 0 (p : Int) ((R : Int) - 1) = true := inR_iff.2 (by omega)
  have hd1 : decide (C.length ≤ k) = false := by simp; omega
  have hd2 : decide ((k : Int) < 0) = false := by simp
  have hd3 : decide ((C.length : Int) ≤ (k : Int)) = false := by simp; omega
  obtain ⟨W, hW, hb, hs, x0⟩ := boxes1 w #[.int .i64 (R : Int), .slice an N.length cn, .slice ac C.length cc] 24
  have Hs := hid hs
  clear hs
  replace hN := hN.below hb (Nat.le_refl _); replace hC := hC.below hb (Nat.le_refl _)
  have c0 := x0.cell 0 rfl; have c1 := x0.cell 1 rfl; have c2 := x0.cell 2 rfl
  go_enter Try.func9, Try.ntmps9
  go_wp2_with fail
  refine (isWheel_any _ _ _ _ _ _ _ _ hN hC).mono ?_
  rintro e W1 ⟨rfl, hb1⟩
  rw [hw]
  clear hW
  replace hN := hN.below hb1 (Nat.le_refl _); replace hC := hC.below hb1 (Nat.le_refl _); (try clear c0 c1 c2); replace x0 := x0.below hb1; have c0 := x0.cell 0 rfl; have c1 := x0.cell 1 rfl; have c2 := x0.cell 2 rfl; replace hb := hb.trans (hb1.mono hb.size); clear hb1
  go_wp2_with fail
  refine (rIsPlace_any _ _ _ _ _ _ _ p _ hv).mono ?_
  rintro e W2 ⟨rfl, hb1⟩
  rw [hpB]
  replace hN := hN.below hb1 (Nat.le_refl _); replace hC := hC.below hb1 (Nat.le_refl _); (try clear c0 c1 c2); replace x0 := x0.below hb1; have c0 := x0.cell 0 rfl; have c1 := x0.cell 1 rfl; have c2 := x0.cell 2 rfl; replace hb := hb.trans (hb1.mono hb.size); clear hb1
  have hco := hv.coin hk
  obtain ⟨c, hce⟩ : ∃ c, c = cw C k := ⟨_, rfl⟩
  rw [← hce] at hco
  have Hce := hid hce
  clear hce
  have hsz := x0.lt
  have hsz0 := hb.size
  go_wp2
  clear c0 c1 c2
  obtain ⟨ba, off, x, hae, bk, hcx0, _, _, hx, _⟩ := hC.at hk
  have hxe : x = (c : Int) := by have := hx.out; rw [hco.1] at this; simpa using this.symm
  subst hxe
  subst hae
  clear hx
  have hcI : (c : Int) ≤ 100 := by omega
  have Hco := hid hco.1
  go_loopw [7, 8] (fun v7 v8 wr => ∃ (n q : Nat), n ≤ 20 ∧ q = n * c ∧ v8 = .int .i64 q ∧ wr.ownsRow W2.heap.size 3 1 v7 n (List.replicate n (.int .i64 (k : Int))) ∧ Below w.heap.size w wr ∧ Below W2.heap.size W2 wr ∧ Bx wr w.heap.size #[.int .i64 (R : Int), .slice an N.length cn, .slice (some ⟨ba, off, none⟩) C.length cc] 24) (fun v7 _ _ => 20 - lenOf v7)
  case atStart => exact ⟨0, 0, by omega, by omega, rfl, World.ownsRow_nil _ _ _ _, hb, Below.refl _ _, x0⟩
  case round =>
    clear hb x0 
    obtain ⟨n, q, hn, hq, rfl, hown, hb, hb2, x0⟩ := hrel
    obtain ⟨a7, c7, rfl⟩ := own_slice hown
    have hq2 : q ≤ 2000 := by
      have := Nat.mul_le_mul hn hco.2.2
      omega
    have hR0 : (R : Int) ≠ 0 := by omega
    have HQ := hid hq; clear hq
    have c0 := x0.cell 0 rfl; have c1 := x0.cell 1 rfl; have c2 := x0.cell 2 rfl
    by_cases hq0 : q = 0
    · have hn0 : n < 20 := by
        rcases Nat.eq_zero_or_pos n with h | h
        · omega
        · have := Nat.mul_le_mul h hco.2.1
          have := HQ.out
          omega
      have hqB : ((q : Int) == 0) = true := by simp; omega

      have hnB : ((n : Int) == 20) = false := by simp; omega
      have hcx := Below.keep hb2 hcx0
      have e1 : IntKind.i64.wrap ((q : Int) + (c : Int)) = (q : Int) + (c : Int) := IntWalk.i64_in _ (by omega)
      go_wp2_with fail
      have d2 := x0.cell 2 rfl
      refine wp_region_head 12 (fun w' => w'.cell? ⟨w.heap.size, 2, none⟩ = some (.slice (some ⟨ba, off, none⟩) C.length cc) ∧ w'.cell? ⟨ba, off + k, none⟩ = some (.int .i64 c)) (by kernel_rfl) rfl ?_
      have S0 : wr.drew.cell? ⟨w.heap.size, 2, none⟩ = some (.slice (some ⟨ba, off, none⟩) C.length cc) ∧ wr.drew.cell? ⟨ba, off + k, none⟩ = some (.int .i64 c) := ⟨d2, hcx⟩
      refine HeadAt.take (i := 0) (.slice a7 n c7) rfl (by kernel_rfl) (.inl ⟨rfl, fun w' hS => ?_⟩) S0 ?_
      · obtain ⟨s0, s1⟩ := hS
        simp [go_sem]
      refine HeadAt.take (i := 1) (.int .i64 k) rfl (by kernel_rfl) (.inl ⟨rfl, fun w' hS => ?_⟩) S0 ?_
      · obtain ⟨s0, s1⟩ := hS
        simp [go_sem]
      refine HeadAt.take (i := 4) (.int .i64 q) rfl (by kernel_rfl) (.inl ⟨rfl, fun w' hS => ?_⟩) S0 ?_
      · obtain ⟨s0, s1⟩ := hS
        simp [go_sem]
      refine HeadAt.take (i := 5) (.pointer (some ⟨w.heap.size, 2, none⟩)) rfl (by kernel_rfl) (.inl ⟨rfl, fun w' hS => ?_⟩) S0 ?_
      · obtain ⟨s0, s1⟩ := hS
        simp [go_sem]
      refine HeadAt.take (i := 6) (.slice (some ⟨ba, off, none⟩) C.length cc) rfl (by kernel_rfl) (.inl ⟨rfl, fun w' hS => ?_⟩) S0 ?_
      · obtain ⟨s0, s1⟩ := hS
        simp [go_sem, s0]
      refine HeadAt.take (i := 7) (.int .i64 k) rfl (by kernel_rfl) (.inl ⟨rfl, fun w' hS => ?_⟩) S0 ?_
      · obtain ⟨s0, s1⟩ := hS
        simp [go_sem]
      refine HeadAt.take (i := 8) (.pointer (some ⟨ba, off + k, none⟩)) rfl (by kernel_rfl) (.inl ⟨rfl, fun w' hS => ?_⟩) S0 ?_
      · obtain ⟨s0, s1⟩ := hS
        simp [go_sem, hk]
      refine HeadAt.take (i := 9) (.int .i64 c) rfl (by kernel_rfl) (.inl ⟨rfl, fun w' hS => ?_⟩) S0 ?_
      · obtain ⟨s0, s1⟩ := hS
        simp [go_sem, s1]
      refine HeadAt.take (i := 10) (.int .i64 ((q : Int) + (c : Int))) rfl (by kernel_rfl) (.inl ⟨rfl, fun w' hS => ?_⟩) S0 ?_
      · obtain ⟨s0, s1⟩ := hS
        simp [go_sem, e1]
      refine HeadAt.one (i := 2) rfl (by kernel_rfl) ?_
      generalize hK : Upto _ _ = K0
      simp only [Act.put, List.getElem_toArray, List.getElem_cons_succ, List.getElem_cons_zero, List.setIfInBounds_toArray, List.set_cons_succ, List.set_cons_zero]
      go_wp2
      subst hK
      have hb3 := below_one (w := wr.drew) (.cells #[.int .i64 (k : Int)] 3)
      refine ⟨⟨Below.keep hb3 S0.1, Below.keep hb3 S0.2⟩, ?_⟩
      refine HeadAt.one (i := 3) rfl (by kernel_rfl) ?_
      generalize hK : Upto _ _ = K0
      simp only [List.getElem_toArray, List.getElem_cons_succ, List.getElem_cons_zero]
      go_wp2_with (first | (at_builtin; go_must (refine wpList_append_own _ rfl _ _ 22 rfl W2.heap.size 3 j0 (.int .i64 0) 1 8 under22 hj jz0 jz1 jz2 rfl (by decide) _ _ _ rfl (hown.drew.alloc _) ⟨wr.heap.size, 0, none⟩ 1 1 [.int .i64 (k : Int)] rfl rfl (cell_one_new wr.drew _ _) (ints_oneCell .i64 [(k : Int)]) (by unfold maxLen; omega) (by omega) (by have := hb2.size; simp; omega) ?_); intro v' w1 hown' hgrow _))
      subst hK
      have hge := own_ge hown
      have hb' : Below w.heap.size w w1 := (hb.drew.alloc (by have := hb.size; simpa using this) _).grown hgrow (by have := hb.size; simp; omega) (fun k hk => by have := hge k hk; omega)
      have hb2' : Below W2.heap.size W2 w1 := (hb2.drew.alloc (by have := hb2.size; simpa using this) _).grown hgrow (by have := hb2.size; simp; omega) (fun k hk => hge k hk)
      have x0' := (x0.drew.alloc (.cells #[.int .i64 (k : Int)] 3)).gb hgrow (fun k hk => by have := hge k hk; omega)
      have S1 : w1.cell? ⟨w.heap.size, 2, none⟩ = some (.slice (some ⟨ba, off, none⟩) C.length cc) ∧ w1.cell? ⟨ba, off + k, none⟩ = some (.int .i64 c) := ⟨x0'.cell 2 rfl, Below.keep hb2' hcx0⟩
      refine ⟨S1, ?_⟩
      clear hown hgrow hb hb2 hb3 x0 S0 d2 hcx c0 c1 c2
      refine HeadAt.take (i := 11) v' rfl (by kernel_rfl) (.inl ⟨rfl, fun w' hS => ?_⟩) S1 ?_
      · simp [go_sem]
      refine HeadAt.done (by kernel_rfl) ?_
      simp only [Act.put, List.drop_succ_cons, List.drop_zero, List.getElem_toArray, List.getElem_cons_succ, List.getElem_cons_zero]
      go_wp2
      refine NoPanic.normal ?_
      go_wp2
      obtain ⟨a8, c8, rfl⟩ := own_slice hown'
      go_roundw
      case rel => exact ⟨n + 1, q + c, by omega, by rw [Nat.add_mul, HQ.out]; omega, by rw [hq0]; go_num, by rw [List.replicate_succ']; exact hown', hb', hb2', x0'⟩
      case measure => simp [lenOf]; omega
    · have hqB : ((q : Int) == 0) = false := by simp; omega
      by_cases hm : q % R = 0
      · have hmB : (((q : Int) % (R : Int)) != 0) = false := by
          have : (q : Int) % (R : Int) = ((q % R : Nat) : Int) := by simp
          rw [this, hm]; rfl
        obtain ⟨xs, hxs⟩ : ∃ xs, xs = List.replicate n (k : Int) := ⟨_, rfl⟩
        have hxl : xs.length = n := by rw [hxs]; simp
        have hi : Ints wr a7 xs := by
          obtain ⟨a', c', he, hi⟩ := Ints.of_own (xs := xs) (w := wr) (base := W2.heap.size) (v := .slice a7 n c7) (by rw [hxl, hxs, List.map_replicate]; exact hown) (by omega) (fun x hx => by rw [hxs] at hx; rw [List.eq_of_mem_replicate hx]; omega)
          simp at he
          rw [he.1]; exact hi
        obtain ⟨G, hG⟩ : ∃ G, G = q / R * N.length := ⟨_, rfl⟩
        have hq' : q = n * cw C k := by rw [HQ.out, Hce.out]
        have hP := around_plays hv hp hk hn hq' hm
        have hU := around_run hv hp hk hn hq' hm
        rw [← hxs, ← hG] at hP hU
        have hGl : G ≤ 24000 := by
          have h1 : q / R ≤ 2000 := Nat.le_trans (Nat.div_le_self _ _) hq2
          rw [hG]; have := Nat.mul_le_mul h1 hv.n12; omega
        have HP := hid hP; have HU := hid hU; have HG := hid hG
        have hNw := hN.below hb2 (Nat.le_refl _); have hCw := hC.below hb2 (Nat.le_refl _)
        have hplays : Calls Try.prog 23 #[.agg #[.int .i64 (R : Int), .slice an N.length cn, .slice (some ⟨ba, off, none⟩) C.length cc], .int .i64 p, .slice a7 n c7] wr fun e w' => e = .returned (.tuple #[.int .i64 G, .int .i64 0]) ∧ Below wr.heap.size wr w' := by
          have := plays_good R an (some ⟨ba, off, none⟩) cn cc N C p a7 c7 xs wr hNw hCw hi hv
          rw [HP.out.1, HP.out.2, hxl] at this
          exact this
        clear hP hU hG hq' hm hxs hown
        go_wp2_with fail
        refine hplays.mono ?_
        rintro e W3 ⟨rfl, hb1⟩
        have hrun : Calls Try.prog 21 #[.agg #[.int .i64 (R : Int), .slice an N.length cn, .slice (some ⟨ba, off, none⟩) C.length cc], .agg #[.int .i64 p, .int .i64 0], .slice a7 n c7] W3 fun e w' => e = .returned (.tuple #[.agg #[.int .i64 p, .int .i64 G], .int .i64 0, .int .i64 0]) ∧ Below W3.heap.size W3 w' := by
          have := run_good R an (some ⟨ba, off, none⟩) cn cc N C p 0 a7 c7 xs W3 (hNw.below hb1 (Nat.le_refl _)) (hCw.below hb1 (Nat.le_refl _)) (hi.below hb1 (Nat.le_refl _)) hv HU.out.2
          rw [HU.out.1, hxl] at this
          exact this
        clear hplays
        (try clear c0 c1 c2); replace x0 := x0.below hb1; have c0 := x0.cell 0 rfl; have c1 := x0.cell 1 rfl; have c2 := x0.cell 2 rfl; replace hb := hb.trans (hb1.mono hb.size); clear hb1
        clear hi hNw hCw hb2
        go_wp2_with fail
        refine hrun.mono ?_
        rintro e W4 ⟨rfl, hb1⟩
        clear hrun
        replace x0 := x0.below hb1; replace hb := hb.trans (hb1.mono hb.size); clear hb1
        have b1 := below_one (w := W4) (.cells #[.int .i64 p, .int .i64 G] 26)
        have y := Bx.new W4 #[.int .i64 p, .int .i64 G] 26
        replace x0 := x0.below b1; replace hb := hb.trans (b1.mono hb.size); clear b1
        clear c0 c1 c2
        have c0 := x0.ext 0 rfl; have c1 := x0.ext 1 rfl; have c2 := x0.ext 2 rfl; have d0 := y.ext 0 rfl; have d1 := y.ext 1 rfl
        go_wp2_with fail
        obtain ⟨Z, hZ⟩ : ∃ Z, Z = q / R := ⟨_, rfl⟩
        have hG' : G = Z * N.length := by rw [HG.out, hZ]
        have hZl : Z ≤ 2000 := by rw [hZ]; exact Nat.le_trans (Nat.div_le_self _ _) hq2
        have f1 : (q : Int) / (R : Int) = (Z : Int) := by rw [hZ]; simp
        have f2 : (Z : Int) * (N.length : Int) = (G : Int) := by rw [hG']; simp
        have f3 : IntKind.i64.wrap (Z : Int) = (Z : Int) := IntWalk.i64_in _ (by omega)
        have f4 : IntKind.i64.wrap (G : Int) = (G : Int) := IntWalk.i64_in _ (by omega)
        clear hZ hG'
        have g1 : (1 : Int) ≤ (R : Int) := by omega
        have g2 : (0 : Int) ≤ (q : Int) := by omega
        have g3 : ¬ R = 0 := by omega
        refine wp_region_ext_lit (by kernel_rfl) (by kernel_rfl) ?_
        repeat (quiet_step (first | (go_at_call 17; exact quiet_ext (works_any _))))
        refine wpQuiet_nil ?_
        intro _ hw'
        obtain ⟨t, rfl⟩ := hw'
        replace hb := hb.trans (t.below.mono hb.size)
        go_wp2
        go_ret
        exact ⟨rfl, hb⟩
      · have hmB : (((q : Int) % (R : Int)) != 0) = true := by
          have : (q : Int) % (R : Int) = ((q % R : Nat) : Int) := by simp
          rw [this]; simp; omega
        clear hm hq0
        by_cases hn20 : n = 20
        · have hnB : ((n : Int) == 20) = true := by simp; omega
          clear hn20
          go_wp2_with fail
          refine (works_any _).mono ?_
          rintro e W3 ⟨rfl, hb1⟩
          replace hb := hb.trans (hb1.mono hb.size)
          clear hb1
          go_wp2
          go_ret
          exact ⟨rfl, hb⟩
        · have hn0 : n < 20 := by omega
          have hnB : ((n : Int) == 20) = false := by simp; omega
          have hcx := Below.keep hb2 hcx0
          have e1 : IntKind.i64.wrap ((q : Int) + (c : Int)) = (q : Int) + (c : Int) := IntWalk.i64_in _ (by omega)
          go_wp2_with fail
          have d2 := x0.cell 2 rfl
          refine wp_region_head 12 (fun w' => w'.cell? ⟨w.heap.size, 2, none⟩ = some (.slice (some ⟨ba, off, none⟩) C.length cc) ∧ w'.cell? ⟨ba, off + k, none⟩ = some (.int .i64 c)) (by kernel_rfl) rfl ?_
          have S0 : wr.drew.cell? ⟨w.heap.size, 2, none⟩ = some (.slice (some ⟨ba, off, none⟩) C.length cc) ∧ wr.drew.cell? ⟨ba, off + k, none⟩ = some (.int .i64 c) := ⟨d2, hcx⟩
          refine HeadAt.take (i := 0) (.slice a7 n c7) rfl (by kernel_rfl) (.inl ⟨rfl, fun w' hS => ?_⟩) S0 ?_
          · obtain ⟨s0, s1⟩ := hS
            simp [go_sem]
          refine HeadAt.take (i := 1) (.int .i64 k) rfl (by kernel_rfl) (.inl ⟨rfl, fun w' hS => ?_⟩) S0 ?_
          · obtain ⟨s0, s1⟩ := hS
            simp [go_sem]
          refine HeadAt.take (i := 4) (.int .i64 q) rfl (by kernel_rfl) (.inl ⟨rfl, fun w' hS => ?_⟩) S0 ?_
          · obtain ⟨s0, s1⟩ := hS
            simp [go_sem]
          refine HeadAt.take (i := 5) (.pointer (some ⟨w.heap.size, 2, none⟩)) rfl (by kernel_rfl) (.inl ⟨rfl, fun w' hS => ?_⟩) S0 ?_
          · obtain ⟨s0, s1⟩ := hS
            simp [go_sem]
          refine HeadAt.take (i := 6) (.slice (some ⟨ba, off, none⟩) C.length cc) rfl (by kernel_rfl) (.inl ⟨rfl, fun w' hS => ?_⟩) S0 ?_
          · obtain ⟨s0, s1⟩ := hS
            simp [go_sem, s0]
          refine HeadAt.take (i := 7) (.int .i64 k) rfl (by kernel_rfl) (.inl ⟨rfl, fun w' hS => ?_⟩) S0 ?_
          · obtain ⟨s0, s1⟩ := hS
            simp [go_sem]
          refine HeadAt.take (i := 8) (.pointer (some ⟨ba, off + k, none⟩)) rfl (by kernel_rfl) (.inl ⟨rfl, fun w' hS => ?_⟩) S0 ?_
          · obtain ⟨s0, s1⟩ := hS
            simp [go_sem, hk]
          refine HeadAt.take (i := 9) (.int .i64 c) rfl (by kernel_rfl) (.inl ⟨rfl, fun w' hS => ?_⟩) S0 ?_
          · obtain ⟨s0, s1⟩ := hS
            simp [go_sem, s1]
          refine HeadAt.take (i := 10) (.int .i64 ((q : Int) + (c : Int))) rfl (by kernel_rfl) (.inl ⟨rfl, fun w' hS => ?_⟩) S0 ?_
          · obtain ⟨s0, s1⟩ := hS
            simp [go_sem, e1]
          refine HeadAt.one (i := 2) rfl (by kernel_rfl) ?_
          generalize hK : Upto _ _ = K0
          simp only [Act.put, List.getElem_toArray, List.getElem_cons_succ, List.getElem_cons_zero, List.setIfInBounds_toArray, List.set_cons_succ, List.set_cons_zero]
          go_wp2
          subst hK
          have hb3 := below_one (w := wr.drew) (.cells #[.int .i64 (k : Int)] 3)
          refine ⟨⟨Below.keep hb3 S0.1, Below.keep hb3 S0.2⟩, ?_⟩
          refine HeadAt.one (i := 3) rfl (by kernel_rfl) ?_
          generalize hK : Upto _ _ = K0
          simp only [List.getElem_toArray, List.getElem_cons_succ, List.getElem_cons_zero]
          go_wp2_with (first | (at_builtin; go_must (refine wpList_append_own _ rfl _ _ 22 rfl W2.heap.size 3 j0 (.int .i64 0) 1 8 under22 hj jz0 jz1 jz2 rfl (by decide) _ _ _ rfl (hown.drew.alloc _) ⟨wr.heap.size, 0, none⟩ 1 1 [.int .i64 (k : Int)] rfl rfl (cell_one_new wr.drew _ _) (ints_oneCell .i64 [(k : Int)]) (by unfold maxLen; omega) (by omega) (by have := hb2.size; simp; omega) ?_); intro v' w1 hown' hgrow _))
          subst hK
          have hge := own_ge hown
          have hb' : Below w.heap.size w w1 := (hb.drew.alloc (by have := hb.size; simpa using this) _).grown hgrow (by have := hb.size; simp; omega) (fun k hk => by have := hge k hk; omega)
          have hb2' : Below W2.heap.size W2 w1 := (hb2.drew.alloc (by have := hb2.size; simpa using this) _).grown hgrow (by have := hb2.size; simp; omega) (fun k hk => hge k hk)
          have x0' := (x0.drew.alloc (.cells #[.int .i64 (k : Int)] 3)).gb hgrow (fun k hk => by have := hge k hk; omega)
          have S1 : w1.cell? ⟨w.heap.size, 2, none⟩ = some (.slice (some ⟨ba, off, none⟩) C.length cc) ∧ w1.cell? ⟨ba, off + k, none⟩ = some (.int .i64 c) := ⟨x0'.cell 2 rfl, Below.keep hb2' hcx0⟩
          refine ⟨S1, ?_⟩
          clear hown hgrow hb hb2 hb3 x0 S0 d2 hcx c0 c1 c2
          refine HeadAt.take (i := 11) v' rfl (by kernel_rfl) (.inl ⟨rfl, fun w' hS => ?_⟩) S1 ?_
          · simp [go_sem]
          refine HeadAt.done (by kernel_rfl) ?_
          simp only [Act.put, List.drop_succ_cons, List.drop_zero, List.getElem_toArray, List.getElem_cons_succ, List.getElem_cons_zero]
          go_wp2
          refine NoPanic.normal ?_
          go_wp2
          obtain ⟨a8, c8, rfl⟩ := own_slice hown'
          go_roundw
          case rel => exact ⟨n + 1, q + c, by omega, by rw [Nat.add_mul, HQ.out]; omega, by go_num, by rw [List.replicate_succ']; exact hown', hb', hb2', x0'⟩
          case measure => simp [lenOf]; omega
end Go.Proofs.Ytmkmnedojgigoaa
namespace Go.Proofs.Ytmkmnedojgigoaa
open Go.RowKit

theorem around_any (r : Int) (an ac : Option Addr) (cn cc : Nat) (N C : List Int) (p k : Int) (w : World) (hN : Ints w an N) (hC : Ints w ac C) : Calls Try.prog 9 #[.agg #[.int .i64 r, .slice an N.length cn, .slice ac C.length cc], .int .i64 p, .int .i64 k] w (WorksP w) := by
  cases hw : isWhl r N C
  · exact around_not _ _ _ _ _ _ _ p k w hN hC hw
  · obtain ⟨R, rfl, hv⟩ := isWhl_vw hw
    cases ho : argAr R C p k
    · exact around_arg _ _ _ _ _ _ _ p k w hN hC hw hv ho
    · simp only [argAr, Bool.and_eq_true, decide_eq_true_eq, inR_iff] at ho
      obtain ⟨a, rfl⟩ := Int.eq_ofNat_of_zero_le ho.1.1
      obtain ⟨b, rfl⟩ := Int.eq_ofNat_of_zero_le ho.2.1
      exact around_ok _ _ _ _ _ _ _ a b w hN hC hw hv (by omega) (by omega)
end Go.Proofs.Ytmkmnedojgigoaa
