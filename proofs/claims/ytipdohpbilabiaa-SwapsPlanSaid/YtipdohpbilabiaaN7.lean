import Derived.Test.YtipdohpbilabiaaN6
/-! Plan; what the lists of the best plan are. -/
namespace Go.Proofs.Ytipdohpbilabiaa
set_option linter.unusedSimpArgs false
set_option linter.unusedVariables false
open Go Go.RowKit

theorem mask_bitL : ∀ t : Nat, t < 64 → mask (bitL t) = t := by decide +kernel
theorem ris_bitL : ∀ n : Nat, n < 7 → ∀ t : Nat, t < 64 → t < 2 ^ n → risB ((n : Int) - 1) (bitL t) = true := by decide +kernel
theorem listsL_len (p : Pl) (n : Nat) : (listsL p n).length = n := by simp [listsL]
theorem listsL_get (p : Pl) {n k : Nat} (hk : k < n) : (listsL p n).getD k [] = bitL (p.get k) := by
  unfold listsL
  rw [List.getD_eq_getElem?_getD, List.getElem?_map, List.getElem?_range hk]
  rfl
theorem cnt_mask {hi : Int} {l : List Int} (h : risB hi l = true) (h6 : hi < 6) (h3 : l.length ≤ 3) : cnt (mask l) = l.length := by
  unfold cnt; rw [bits_mask h h6 h3, List.length_map]
/-- The lists of a plan that fits are a plan, and that plan. -/
theorem lists_plan {X : Sw} (hok : XOk X) {p : Pl} (hp : p ∈ plansV X.vz) : plB X (listsL p X.bs.length) = true ∧ planM (listsL p X.bs.length) = p := by
  have hn3 := hok.nb3
  have h6 : ntI X < 6 := by unfold ntI; have := hok.t6; omega
  obtain ⟨h1, h2, _⟩ := (plans_mem hn3 p).1 hp
  have hp6 : 2 ^ X.st.length ≤ 64 := Nat.pow_le_pow_right (n := 2) (by omega) hok.t6
  have hgk : ∀ k, k < X.bs.length → p.get k < 2 ^ X.st.length := fun k hk => (h2 k hk).1
  constructor
  · unfold plB
    rw [listsL_len, decide_eq_true rfl, Bool.true_and, List.all_eq_true]
    intro k hk
    have hk' : k < X.bs.length := List.mem_range.1 hk
    unfold plI
    rw [listsL_get p hk', Bool.and_eq_true, decide_eq_true_eq]
    obtain ⟨c1, c2, _⟩ := h2 k hk'
    refine ⟨?_, ris_bitL X.st.length (by have := hok.t6; omega) _ (by have := hgk k hk'; omega) (hgk k hk')⟩
    obtain ⟨h3, hr⟩ := hok.b3 k hk'
    rw [show X.vz.now.get k = mask (X.bs.getD k []) from now_get X.bs hk' hn3, cnt_mask hr h6 h3] at c2
    unfold bitL
    rw [List.length_map]
    exact c2
  · refine Pl.ext_get fun j hj => ?_
    rcases Nat.lt_or_ge j X.bs.length with h | h
    · rw [show (planM (listsL p X.bs.length)).get j = mask ((listsL p X.bs.length).getD j []) from now_get _ (by rw [listsL_len]; exact h) (by rw [listsL_len]; exact hn3), listsL_get p h]
      exact mask_bitL _ (by have := hgk j h; omega)
    · rw [h1 j hj h]
      unfold planM planL
      rw [listsL_len]
      match j, hj with
      | 0, _ => show (if 0 < _ then _ else _) = _; rw [if_neg (by omega)]
      | 1, _ => show (if 1 < _ then _ else _) = _; rw [if_neg (by omega)]
      | 2, _ => show (if 2 < _ then _ else _) = _; rw [if_neg (by omega)]
def lexR (x y : Int × Int) : Prop := x.1 < y.1 ∨ (x.1 = y.1 ∧ x.2 < y.2)
theorem keepK_sorted (p : Pl) : ∀ n, (keepK p n).Pairwise lexR
  | 0 => by unfold keepK; simp
  | n + 1 => by
    rw [keepK_succ, List.pairwise_append]
    refine ⟨keepK_sorted p n, ?_, fun a ha b hb => ?_⟩
    · unfold keepR
      rw [List.pairwise_map]
      have h : (bitsOf (p.get n)).Pairwise (· < ·) := by
        unfold bitsOf bitsTo
        exact List.pairwise_lt_range.filter _
      refine h.imp fun {a b} hab => .inr ⟨rfl, ?_⟩
      show (a : Int) < (b : Int)
      omega
    · unfold keepK at ha
      rw [List.mem_flatMap] at ha
      obtain ⟨j, hj, ha⟩ := ha
      unfold keepR at ha hb
      rw [List.mem_map] at ha hb
      obtain ⟨i, _, rfl⟩ := ha
      obtain ⟨i', _, rfl⟩ := hb
      have : j < n := List.mem_range.1 hj
      left
      show (j : Int) < (n : Int)
      omega
theorem keepL_lex (p : Pl) {k : Nat} (hk : k + 1 < (keepL p).length) : lexR ((keepL p).getD k (0, 0)) ((keepL p).getD (k + 1) (0, 0)) := by
  have h := List.pairwise_iff_getElem.1 (keepK_sorted p 3) k (k + 1) (show k < (keepL p).length by omega) hk (by omega)
  rw [List.getD_eq_getElem?_getD, List.getD_eq_getElem?_getD, List.getElem?_eq_getElem (show k < (keepL p).length by omega), List.getElem?_eq_getElem hk]
  exact h
theorem bestPlan_X (ab ast ae ak : Option Addr) (cb cs ce ck : Nat) (X : Sw) (hok : XOk X) (p q : Pl) (hp : p = planM X.bs) (hq : q = stayF X.ks) (s : Pl) (hs : s = bestP X.vz) (w : World) (hX : Swp w ab ast ae ak X) : Calls Try.prog 66 #[.agg #[.slice ab X.bs.length cb, .slice ast X.st.length cs, .slice ae X.er.length ce, .slice ak X.ks.length ck, .int .i64 X.ch, .int .u8 (p.a : Int), .int .u8 (p.b : Int), .int .u8 (p.c : Int), .int .u8 (q.a : Int), .int .u8 (q.b : Int), .int .u8 (q.c : Int)]] w fun e w' => e = .returned (.agg #[.int .u8 (s.a : Int), .int .u8 (s.b : Int), .int .u8 (s.c : Int)]) ∧ Below w.heap.size w w' := by
  subst hp hq
  exact bestPlan_any ab ast ae ak cb cs ce X.ks.length ck X.vz (vz_ok hok) w ⟨hX.2.1, hX.2.2.1⟩ s hs

set_option maxRecDepth 100000 in
set_option maxHeartbeats 2000000 in
theorem Plan_ok (ab ast ae ak : Option Addr) (cb cs ce ck : Nat) (X : Sw) (w : World) (hX : Swp w ab ast ae ak X) (hv : vB X = true) : Calls Try.prog 33 #[.agg #[.slice ab X.bs.length cb, .slice ast X.st.length cs, .slice ae X.er.length ce, .slice ak X.ks.length ck, .int .i64 X.ch]] w fun e w' => Below w.heap.size w w' ∧ ∃ a, e = .returned (.tuple #[.slice a X.bs.length X.bs.length, .int .i64 0]) ∧ Lss w' a (listsL (bestP X.vz) X.bs.length) := by
  obtain ⟨p, hp⟩ : ∃ p, p = planM X.bs := ⟨_, rfl⟩
  obtain ⟨q, hq⟩ : ∃ q, q = stayF X.ks := ⟨_, rfl⟩
  obtain ⟨s, hs⟩ : ∃ s, s = bestP X.vz := ⟨_, rfl⟩
  have hok := vB_iff hv
  have hn3 := hok.nb3
  obtain ⟨W, hW, hbw, _, x0⟩ := boxes1 w #[.slice ab X.bs.length cb, .slice ast X.st.length cs, .slice ae X.er.length ce, .slice ak X.ks.length ck, .int .i64 X.ch] 26
  have hvo := visitOf_ok ab ast ae ak cb cs ce ck X W (hX.below hbw (Nat.le_refl _)) hv p q hp hq
  have hbp := fun W' (h : Below w.heap.size w W') => bestPlan_X ab ast ae ak cb cs ce ck X hok p q hp hq s hs W' (hX.below h (Nat.le_refl _))
  have hli := fun W' => lists_any s (by rw [hs]; exact (plansV_ok (best_in hok)).le (vz_ok hok).p64) X.bs.length hn3 W'
  rw [← hs]
  clear hX hp hq hs hok hv
  have c0 := x0.cell 0 rfl; have c1 := x0.cell 1 rfl; have c2 := x0.cell 2 rfl; have c3 := x0.cell 3 rfl; have c4 := x0.cell 4 rfl
  go_enter Try.func33, Try.ntmps33
  go_wp2_with fail
  refine hvo.mono ?_
  rintro e W1 ⟨rfl, hb1⟩
  replace hbw := hbw.trans (hb1.mono hbw.size)
  obtain ⟨W2, hW2, hb2, _, x4⟩ := boxes1 W1 #[.slice ab X.bs.length cb, .slice ast X.st.length cs, .slice ae X.er.length ce, .slice ak X.ks.length ck, .int .i64 X.ch, .int .u8 (p.a : Int), .int .u8 (p.b : Int), .int .u8 (p.c : Int), .int .u8 (q.a : Int), .int .u8 (q.b : Int), .int .u8 (q.c : Int)] 72
  replace hbw := hbw.trans (hb2.mono hbw.size)
  replace x0 := (x0.below hb1).below hb2
  have hws : W1.heap.size = W1.heap.size := rfl
  clear hW c0 c1 c2 c3 c4 hvo
  have d0 := x4.cell 0 rfl; have d1 := x4.cell 1 rfl; have d2 := x4.cell 2 rfl; have d3 := x4.cell 3 rfl; have d4 := x4.cell 4 rfl; have d5 := x4.cell 5 rfl; have d6 := x4.cell 6 rfl; have d7 := x4.cell 7 rfl; have d8 := x4.cell 8 rfl; have d9 := x4.cell 9 rfl; have d10 := x4.cell 10 rfl
  have c0 := x0.cell 0 rfl; have c1 := x0.cell 1 rfl; have c2 := x0.cell 2 rfl; have c3 := x0.cell 3 rfl; have c4 := x0.cell 4 rfl
  go_upto_region 4 with fail
  obtain ⟨g, hg⟩ : ∃ g, g = W1.heap.size := ⟨_, rfl⟩
  rw [← hg] at x4 ⊢
  clear hg c0 c1 c2 c3 c4 d0 d1 d2 d3 d4 d5 d6 d7 d8 d9 d10 hW2 hws
  have hbd := (Below.refl W2.heap.size W2).drew
  have S0 := And.intro (x4.below hbd) (x0.below hbd)
  replace hbw := hbw.trans (hbd.mono hbw.size)
  clear hbd x4 x0
  refine wp_region_head 6 (fun w' => Bx w' g #[.slice ab X.bs.length cb, .slice ast X.st.length cs, .slice ae X.er.length ce, .slice ak X.ks.length ck, .int .i64 X.ch, .int .u8 (p.a : Int), .int .u8 (p.b : Int), .int .u8 (p.c : Int), .int .u8 (q.a : Int), .int .u8 (q.b : Int), .int .u8 (q.c : Int)] 72 ∧ Bx w' w.heap.size #[.slice ab X.bs.length cb, .slice ast X.st.length cs, .slice ae X.er.length ce, .slice ak X.ks.length ck, .int .i64 X.ch] 26) (by kernel_rfl) rfl ?_
  generalize W2.drew = Y0 at *
  refine HeadAt.take (i := 0) (.agg #[.slice ab X.bs.length cb, .slice ast X.st.length cs, .slice ae X.er.length ce, .slice ak X.ks.length ck, .int .i64 X.ch, .int .u8 (p.a : Int), .int .u8 (p.b : Int), .int .u8 (p.c : Int), .int .u8 (q.a : Int), .int .u8 (q.b : Int), .int .u8 (q.c : Int)]) rfl (by kernel_rfl) (.inl ⟨rfl, fun w' z => ?_⟩) S0 ?_
  · (have z0 := z.1.cell 0 rfl; have z1 := z.1.cell 1 rfl; have z2 := z.1.cell 2 rfl; have z3 := z.1.cell 3 rfl; have z4 := z.1.cell 4 rfl; have z5 := z.1.cell 5 rfl; have z6 := z.1.cell 6 rfl; have z7 := z.1.cell 7 rfl; have z8 := z.1.cell 8 rfl; have z9 := z.1.cell 9 rfl; have z10 := z.1.cell 10 rfl; simp [go_sem, z0, z1, z2, z3, z4, z5, z6, z7, z8, z9, z10])
  refine HeadAt.take (i := 2) (.pointer (some ⟨w.heap.size, 0, none⟩)) rfl (by kernel_rfl) (.inl ⟨rfl, fun _ _ => by simp [go_sem]⟩) S0 ?_
  (try simp only [Act.put, List.getElem_toArray, List.getElem_cons_succ, List.getElem_cons_zero, List.setIfInBounds_toArray, List.set_cons_succ, List.set_cons_zero])
  refine HeadAt.take (i := 3) (.slice ab X.bs.length cb) rfl (by kernel_rfl) (.inl ⟨rfl, fun w' z => ?_⟩) S0 ?_
  · (have z0 := z.2.cell 0 rfl; simp [go_sem, z0])
  (try simp only [Act.put, List.getElem_toArray, List.getElem_cons_succ, List.getElem_cons_zero, List.setIfInBounds_toArray, List.set_cons_succ, List.set_cons_zero])
  refine HeadAt.take (i := 4) (.int .i64 (X.bs.length : Int)) rfl (by kernel_rfl) (.inl ⟨rfl, fun w' z => ?_⟩) S0 ?_
  · (simp [go_sem])
  (try simp only [Act.put, List.getElem_toArray, List.getElem_cons_succ, List.getElem_cons_zero, List.setIfInBounds_toArray, List.set_cons_succ, List.set_cons_zero])
  refine HeadAt.one (i := 1) rfl (by kernel_rfl) ?_
  generalize hK : Upto _ _ = K0
  (try simp only [Act.put, List.getElem_toArray, List.getElem_cons_succ, List.getElem_cons_zero, List.setIfInBounds_toArray, List.set_cons_succ, List.set_cons_zero])
  go_wp2_with fail
  refine (hbp _ hbw).mono ?_
  rintro e V1 ⟨rfl, hb1⟩
  replace S0 := And.intro (S0.1.below hb1) (S0.2.below hb1)
  replace hbw := hbw.trans (hb1.mono hbw.size)
  clear hb1 hbp
  go_wp2_with fail
  subst hK
  refine ⟨S0, ?_⟩
  (try simp only [Act.put, List.getElem_toArray, List.getElem_cons_succ, List.getElem_cons_zero, List.setIfInBounds_toArray, List.set_cons_succ, List.set_cons_zero])
  refine HeadAt.one (i := 5) rfl (by kernel_rfl) ?_
  generalize hK : Upto _ _ = K0
  (try simp only [Act.put, List.getElem_toArray, List.getElem_cons_succ, List.getElem_cons_zero, List.setIfInBounds_toArray, List.set_cons_succ, List.set_cons_zero])
  go_wp2_with fail
  refine (hli _).mono ?_
  rintro e V2 ⟨hb1, a, rfl, hL⟩
  replace S0 := And.intro (S0.1.below hb1) (S0.2.below hb1)
  replace hbw := hbw.trans (hb1.mono hbw.size)
  clear hb1 hli
  go_wp2_with fail
  subst hK
  refine ⟨S0, ?_⟩
  (try simp only [Act.put, List.getElem_toArray, List.getElem_cons_succ, List.getElem_cons_zero, List.setIfInBounds_toArray, List.set_cons_succ, List.set_cons_zero])
  refine HeadAt.done (by kernel_rfl) ?_
  (try simp only [Act.put, List.drop_succ_cons, List.drop_zero, List.getElem_toArray, List.getElem_cons_succ, List.getElem_cons_zero])
  clear S0
  go_wp2_with fail
  refine NoPanic.normal ?_
  go_wp2
  go_ret2
  exact ⟨hbw, a, rfl, hL⟩
end Go.Proofs.Ytipdohpbilabiaa
