import Derived.Test.YtipdohpbilabiaaVG
/-! What lists earn; too many of something. -/
namespace Go.Proofs.Ytipdohpbilabiaa
set_option linter.unusedSimpArgs false
set_option linter.unusedVariables false
open Go Go.RowKit

def farI (LL : List (List Int)) (i : Nat) : Bool := decide ((LL.getD i []).length ≤ 40)
def farL (LL : List (List Int)) : Bool := decide (40 < LL.length) || !(List.range LL.length).all (farI LL)
set_option maxRecDepth 100000 in
set_option maxHeartbeats 1000000 in
theorem farLists_any (a : Option Addr) (c : Nat) (LL : List (List Int)) (w : World) (hL : Lss w a LL) : Calls Try.prog 13 #[.slice a LL.length c] w fun e w' => e = .returned (.bool (farL LL)) ∧ w = w' := by
  have hlen := hL.1
  unfold farL
  obtain ⟨n, hn⟩ : ∃ n, n = LL.length := ⟨_, rfl⟩
  rw [← hn] at hlen ⊢
  have HN := hid hn
  clear hn
  by_cases h40 : 40 < n
  · have h40I : (40 : Int) < n := by omega
    go_enter Try.func13, Try.ntmps13
    go_wp2
    go_ret
    exact ⟨ret_bool (by simp [h40]), rfl⟩
  · have h40I : (n : Int) ≤ 40 := by omega
    rw [decide_eq_false h40, Bool.false_or]
    go_enter Try.func13, Try.ntmps13
    go_wp2
    go_loopw [2, 3] (fun v2 v3 wr => ∃ k : Nat, k ≤ n ∧ v3 = .int .i64 (k : Int) ∧ Hid ((List.range k).all (farI LL) = true) ∧ wr = w) (fun _ v3 _ => n - (intOf v3).toNat)
    case atStart => exact ⟨0, Nat.zero_le _, rfl, hid rfl, rfl⟩
    case round =>
      obtain ⟨k, hk, rfl, HA, rfl⟩ := hrel
      by_cases hlt : k < n
      · obtain ⟨b, off, a', c', rfl, hbl, hc, hI⟩ := hL.at (k := k) (by rw [← HN.out]; exact hlt)
        have hkI : (k : Int) < n := by omega
        have hk0 : (0 : Int) ≤ (k : Int) := by omega
        obtain ⟨m, hm⟩ : ∃ m, m = (LL.getD k []).length := ⟨_, rfl⟩
        rw [← hm] at hc
        by_cases hm40 : m ≤ 40
        · have hmI : (m : Int) ≤ 40 := by omega
          have HR := hid (show (List.range (k + 1)).all (farI LL) = true by rw [all_range_succ, HA.out]; unfold farI; rw [← hm, decide_eq_true hm40]; rfl)
          clear hm hI hm40
          go_wp2
          go_roundw
          case rel => exact ⟨k + 1, by omega, by simp, HR, trivial⟩
          case measure => simp [intOf]; omega
        · have hmI : (40 : Int) < m := by omega
          have HR := hid (all_range_no (farI LL) hlt (by unfold farI; rw [← hm, decide_eq_false hm40]))
          clear hm hI hm40
          go_wp2
          go_ret
          exact ⟨ret_bool (by rw [HR.out]; rfl), rfl⟩
      · obtain rfl : k = n := by omega
        have hA := HA.out
        go_wp2
        go_ret
        exact ⟨ret_bool (by rw [hA]; rfl), rfl⟩

set_option maxRecDepth 100000 in
set_option maxHeartbeats 1000000 in
theorem isKnown_any (e : Int) (w : World) : Calls Try.prog 47 #[.int .i64 e] w fun f w' => f = .returned (.bool (decide (e = 0) || decide (e = 3))) ∧ w = w' := by
  by_cases h0 : e = 0
  · subst h0
    go_enter Try.func47, Try.ntmps47
    go_wp2
    go_ret
    exact ⟨rfl, rfl⟩
  · have h0' : (e == 0) = false := by simp [h0]
    by_cases h3 : e = 3
    · subst h3
      go_enter Try.func47, Try.ntmps47
      go_wp2
      go_ret
      exact ⟨rfl, rfl⟩
    · have h3' : (e == 3) = false := by simp [h3]
      go_enter Try.func47, Try.ntmps47
      go_wp2
      go_ret
      exact ⟨ret_bool (by simp [h0, h3]), rfl⟩

/-- What titles earn in a box. -/
def eiF (X : Sw) (k : Nat) (l : List Int) : Int := sumE X.vz k (l.map Int.toNat)
theorem eiF_snoc (X : Sw) (k : Nat) (l : List Int) (x : Int) : eiF X k (l ++ [x]) = eiF X k l + (X.er.getD x.toNat []).getD k 0 := by
  unfold eiF
  rw [List.map_append, List.map_singleton, sumE_snoc]
  rfl
theorem eiF_le {X : Sw} (hok : XOk X) (k : Nat) (l : List Int) : 0 ≤ eiF X k l ∧ eiF X k l ≤ 999 * (l.length : Int) := by
  have h := sumE_le (vz_ok hok) k (l.map Int.toNat)
  rw [List.length_map] at h
  exact h
set_option maxRecDepth 100000 in
set_option maxHeartbeats 3000000 in
theorem EarnsIn_any (ab ast ae ak : Option Addr) (cb cs ce ck : Nat) (X : Sw) (hok : XOk X) (k : Nat) (hk : k < X.bs.length) (al : Option Addr) (cl : Nat) (l : List Int) (hl : ∀ x ∈ l, 0 ≤ x ∧ x < (X.st.length : Int)) (hll : l.length ≤ 6) (w : World) (hX : Swp w ab ast ae ak X) (hI : Ints w al l) : Calls Try.prog 59 #[.agg #[.slice ab X.bs.length cb, .slice ast X.st.length cs, .slice ae X.er.length ce, .slice ak X.ks.length ck, .int .i64 X.ch], .int .i64 (k : Int), .slice al l.length cl] w fun e w' => e = .returned (.int .i64 (eiF X k l)) ∧ Below w.heap.size w w' := by
  obtain ⟨W, hW, hb, _, x0⟩ := boxes1 w #[.slice ab X.bs.length cb, .slice ast X.st.length cs, .slice ae X.er.length ce, .slice ak X.ks.length ck, .int .i64 X.ch] 26
  have hE := hX.2.2.1
  have hbd : ∀ j, 0 ≤ eiF X k (l.take j) ∧ eiF X k (l.take j) ≤ 5994 := fun j => by
    have h := eiF_le hok k (l.take j)
    have h2 : (l.take j).length ≤ 6 := by rw [List.length_take]; omega
    omega
  have HBD := hid hbd
  have HER := hid hok.er2
  have HE1 := hid hok.er1
  have HL := hid hl
  have HK := hid hk
  clear hX hbd hok hl hk
  obtain ⟨n, hn⟩ : ∃ n, n = l.length := ⟨_, rfl⟩
  rw [← hn] at hll ⊢
  have HN := hid hn
  clear hn
  have c0 := x0.cell 0 rfl; have c1 := x0.cell 1 rfl; have c2 := x0.cell 2 rfl; have c3 := x0.cell 3 rfl; have c4 := x0.cell 4 rfl
  go_enter Try.func59, Try.ntmps59
  go_wp2
  clear hW c0 c1 c2 c3 c4
  go_loopw [7, 8] (fun v7 v8 wr => ∃ j : Nat, j ≤ n ∧ v8 = .int .i64 (j : Int) ∧ v7 = .int .i64 (eiF X k (l.take j)) ∧ Below W.heap.size W wr) (fun _ v8 _ => n - (intOf v8).toNat)
  case atStart => exact ⟨0, Nat.zero_le _, rfl, rfl, Below.refl _ _⟩
  case round =>
    obtain ⟨j, hj, rfl, rfl, hb1⟩ := hrel
    by_cases hlt : j < n
    · have hbr := hb.trans (hb1.mono hb.size)
      have hI1 := hI.below hbr (Nat.le_refl _)
      have hE1 := hE.below hbr (Nat.le_refl _)
      replace x0 := x0.below hb1
      obtain ⟨b, off, x, rfl, hbl, hc, hx1, hx2, hg, _⟩ := hI1.at (k := j) (by rw [← HN.out]; exact hlt)
      have hxm : x ∈ l := List.mem_of_getElem? hg.out
      obtain ⟨hxa, hxb⟩ := HL.out x hxm
      obtain ⟨i, rfl⟩ : ∃ i : Nat, x = (i : Int) := ⟨x.toNat, by omega⟩
      have hie : i < X.er.length := by rw [HE1.out]; omega
      obtain ⟨b2, off2, a2, c2, hae, hbl2, hc2, hI2⟩ := hE1.at (k := i) hie
      subst hae
      obtain ⟨hrl, hr9⟩ := HER.out i hie
      obtain ⟨b3, off3, y, hae, hbl3, hc3, hy1, hy2, hg3, _⟩ := hI2.at (k := k) (by rw [hrl]; exact HK.out)
      subst hae
      have hy9 := hr9 y (List.mem_of_getElem? hg3.out)
      have hkl : (k : Int) < ((X.er.getD i []).length : Int) := by rw [hrl]; have := HK.out; omega
      have hk0 : (0 : Int) ≤ (k : Int) := by omega
      have hjI : (j : Int) < n := by omega
      have hj0 : (0 : Int) ≤ (j : Int) := by omega
      have hieI : (i : Int) < (X.er.length : Int) := by omega
      have hi0 : (0 : Int) ≤ (i : Int) := by omega
      have hsn : eiF X k (l.take (j + 1)) = eiF X k (l.take j) + y := by
        have hjl : j < l.length := by rw [← HN.out]; exact hlt
        rw [List.take_add_one, hg.out, Option.toList_some, eiF_snoc, Int.toNat_natCast, List.getD_eq_getElem?_getD (l := X.er.getD i []), hg3.out]
        rfl
      have hs1 := HBD.out (j + 1)
      rw [hsn] at hs1
      have HS := hid hsn
      generalize eiF X k (l.take j) = sj at *
      have hwr : IntKind.i64.wrap (sj + y) = sj + y := IntWalk.i64_in _ (by omega)
      have e2 := x0.ext 2 rfl
      have f1 := fun t => Ext.cell hc t
      have f2 := fun t => Ext.cell hc2 t
      have f3 := fun t => Ext.cell hc3 t
      generalize (X.er.getD i []).length = m at *
      clear hsn hs1 hy9 hr9 hrl hg hg3 hxm hI1 hE1 hI2 hI hE hbl hbl2 hbl3 hxa hxb hx1 hx2 hy1 hy2
      go_upto_region 5 with fail
      refine wp_region_ext_lit (by kernel_rfl) (by kernel_rfl) ?_
      repeat (quiet_step (fail))
      refine wpQuiet_nil ?_
      intro _ hw'
      obtain ⟨t, rfl⟩ := hw'
      have hb14 := hb1.trans (t.below.mono hb1.size)
      go_wp2
      go_roundw
      case rel => exact ⟨j + 1, by omega, by simp, by rw [HS.out], hb14⟩
      case measure => simp [intOf]; omega
    · obtain rfl : j = n := by omega
      have hA : l.take j = l := List.take_of_length_le (by rw [← HN.out]; exact Nat.le_refl _)
      rw [hA]
      have HA := hid hA
      clear hA
      go_wp2
      go_ret
      exact ⟨rfl, hb.trans (hb1.mono hb.size)⟩
/-- What a plan earns altogether, of its first k boxes. -/
def eaF (X : Sw) (P : List (List Int)) (k : Nat) : Int := ((List.range k).map fun i => eiF X i (P.getD i [])).foldl (· + ·) 0
theorem eaF_succ (X : Sw) (P : List (List Int)) (k : Nat) : eaF X P (k + 1) = eaF X P k + eiF X k (P.getD k []) := by simp [eaF, List.range_succ]
theorem eaF_le {X : Sw} (hok : XOk X) (P : List (List Int)) (hP : ∀ l ∈ P, l.length ≤ 6) : ∀ k, k ≤ P.length → 0 ≤ eaF X P k ∧ eaF X P k ≤ 6000 * (k : Int) := by
  intro k
  induction k with
  | zero => intro _; simp [eaF]
  | succ k ih =>
    intro hk
    have h := ih (by omega)
    rw [eaF_succ]
    have h2 := eiF_le hok k (P.getD k [])
    have h3 : (P.getD k []).length ≤ 6 := hP _ (by rw [List.getD_eq_getElem?_getD, List.getElem?_eq_getElem (show k < P.length by omega)]; exact List.getElem_mem _)
    omega
set_option maxRecDepth 100000 in
set_option maxHeartbeats 3000000 in
theorem EarnsAll_any (ab ast ae ak : Option Addr) (cb cs ce ck : Nat) (X : Sw) (hok : XOk X) (ap : Option Addr) (cp : Nat) (P : List (List Int)) (hPl : P.length = X.bs.length) (hP : ∀ l ∈ P, l.length ≤ 6 ∧ ∀ x ∈ l, 0 ≤ x ∧ x < (X.st.length : Int)) (w : World) (hX : Swp w ab ast ae ak X) (hL : Lss w ap P) : Calls Try.prog 37 #[.agg #[.slice ab X.bs.length cb, .slice ast X.st.length cs, .slice ae X.er.length ce, .slice ak X.ks.length ck, .int .i64 X.ch], .slice ap P.length cp] w fun e w' => e = .returned (.int .i64 (eaF X P P.length)) ∧ Below w.heap.size w w' := by
  obtain ⟨W, hW, hb, _, x0⟩ := boxes1 w #[.slice ab X.bs.length cb, .slice ast X.st.length cs, .slice ae X.er.length ce, .slice ak X.ks.length ck, .int .i64 X.ch] 26
  have hn3 : P.length ≤ 3 := by rw [hPl]; exact hok.nb3
  have hbd : ∀ j, j ≤ P.length → 0 ≤ eaF X P j ∧ eaF X P j ≤ 18000 := fun j hj => by
    have h := eaF_le hok P (fun l hl => (hP l hl).1) j hj
    omega
  have HBD := hid hbd
  have HE : ∀ (k : Nat) (V : World) (al : Option Addr) (cl : Nat), k < P.length → Below w.heap.size w V → Ints V al (P.getD k []) → Calls Try.prog 59 #[.agg #[.slice ab X.bs.length cb, .slice ast X.st.length cs, .slice ae X.er.length ce, .slice ak X.ks.length ck, .int .i64 X.ch], .int .i64 (k : Int), .slice al (P.getD k []).length cl] V fun e w' => e = .returned (.int .i64 (eiF X k (P.getD k []))) ∧ Below V.heap.size V w' := fun k V al cl hk hV hI => by
    have hm : P.getD k [] ∈ P := by rw [List.getD_eq_getElem?_getD, List.getElem?_eq_getElem hk]; exact List.getElem_mem _
    exact EarnsIn_any ab ast ae ak cb cs ce ck X hok k (by rw [← hPl]; exact hk) al cl _ (hP _ hm).2 (hP _ hm).1 V (hX.below hV (Nat.le_refl _)) hI
  have HEH := hid HE
  have HBB := hid hb
  clear hX hbd hok hP hPl HE
  obtain ⟨n, hn⟩ : ∃ n, n = P.length := ⟨_, rfl⟩
  rw [← hn] at hn3 ⊢
  have HN := hid hn
  clear hn
  have c0 := x0.cell 0 rfl; have c1 := x0.cell 1 rfl; have c2 := x0.cell 2 rfl; have c3 := x0.cell 3 rfl; have c4 := x0.cell 4 rfl
  go_enter Try.func37, Try.ntmps37
  go_wp2
  clear hW c0 c1 c2 c3 c4
  go_loopw [5, 6] (fun v5 v6 wr => ∃ j : Nat, j ≤ n ∧ v6 = .int .i64 (j : Int) ∧ v5 = .int .i64 (eaF X P j) ∧ Below W.heap.size W wr) (fun _ v6 _ => n - (intOf v6).toNat)
  case atStart => exact ⟨0, Nat.zero_le _, rfl, rfl, Below.refl _ _⟩
  case round =>
    obtain ⟨j, hj, rfl, rfl, hb1⟩ := hrel
    by_cases hlt : j < n
    · have hbr := hb.trans (hb1.mono hb.size)
      have hL1 := hL.below hbr (Nat.le_refl _)
      replace x0 := x0.below hb1
      obtain ⟨b, off, a', c', hap, hbl, hc, hI⟩ := hL1.at (k := j) (by rw [← HN.out]; exact hlt)
      subst hap
      have hjI : (j : Int) < n := by omega
      have hj0 : (0 : Int) ≤ (j : Int) := by omega
      have hei := fun (t : Ext wr) => HEH.out j t.w a' c' (by rw [← HN.out]; exact hlt) (hbr.trans (t.below.mono hbr.size)) (hI.below t.below (Nat.le_refl _))
      have hsn := eaF_succ X P j
      have hs1 := HBD.out (j + 1) (by rw [← HN.out]; omega)
      have hs0 := HBD.out j (by rw [← HN.out]; omega)
      rw [hsn] at hs1
      have HS := hid hsn
      generalize eaF X P j = sj at *
      generalize eiF X j (P.getD j []) = y at *
      generalize (P.getD j []).length = m at *
      have hwr : IntKind.i64.wrap (sj + y) = sj + y := IntWalk.i64_in _ (by omega)
      have d0 := x0.ext 0 rfl; have d1 := x0.ext 1 rfl; have d2 := x0.ext 2 rfl; have d3 := x0.ext 3 rfl; have d4 := x0.ext 4 rfl; 
      have f1 := fun t => Ext.cell hc t
      clear hsn hs1 hs0 hL1 hI hL hbl
      go_upto_region 5 with fail
      refine wp_region_ext_lit (by kernel_rfl) (by kernel_rfl) ?_
      repeat (quiet_step (first | (go_at_call 59; exact quiet_ext (hei _))))
      refine wpQuiet_nil ?_
      intro _ hw'
      obtain ⟨t, rfl⟩ := hw'
      have hb14 := hb1.trans (t.below.mono hb1.size)
      go_wp2
      go_roundw
      case rel => exact ⟨j + 1, by omega, by simp, by rw [HS.out], hb14⟩
      case measure => simp [intOf]; omega
    · obtain rfl : j = n := by omega
      go_wp2
      go_ret
      exact ⟨rfl, hb.trans (hb1.mono hb.size)⟩
end Go.Proofs.Ytipdohpbilabiaa
