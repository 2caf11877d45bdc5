import Derived.Test.YtipdohpbilabiaaZB
import Derived.Test.YtipdohpbilabiaaW2
import Derived.Test.YtipdohpbilabiaaZA
import Derived.Test.YtipdohpbilabiaaN8
set_option linter.unusedSimpArgs false
set_option linter.unusedVariables false
/-! The reference's Always: what it reckons. -/
namespace Go.Proofs.Ytipdohpbilabiaa
set_option linter.unusedSimpArgs false
set_option linter.unusedVariables false
open Go Go.RowKit

/-- A plan has a title in a box, or earns less than the most. -/
def awP (X : Sw) (be : Int) (k t : Nat) (P : List (List Int)) : Bool := decide (eaF X P P.length < be) || inL (t : Int) (P.getD k [])
def alR (X : Sw) (FF : List (List (List Int))) (be : Int) (k m : Nat) : List (Int × Int) := ((List.range m).filter fun t => FF.all (awP X be k t)).map fun (t : Nat) => (((k : Nat) : Int), (t : Int))
def alK (X : Sw) (FF : List (List (List Int))) (be : Int) (k : Nat) : List (Int × Int) := (List.range k).flatMap fun i => alR X FF be i X.st.length
theorem alR_succ (X : Sw) (FF : List (List (List Int))) (be : Int) (k m : Nat) : alR X FF be k (m + 1) = alR X FF be k m ++ if FF.all (awP X be k m) then [((k : Int), (m : Int))] else [] := by
  unfold alR
  rw [List.range_succ, List.filter_append, List.map_append]
  congr 1
  cases h : FF.all (awP X be k m) <;> simp [h]
theorem alK_succ (X : Sw) (FF : List (List (List Int))) (be : Int) (k : Nat) : alK X FF be (k + 1) = alK X FF be k ++ alR X FF be k X.st.length := flat_succ _ _
theorem alR_len (X : Sw) (FF : List (List (List Int))) (be : Int) (k m : Nat) : (alR X FF be k m).length ≤ m := by
  unfold alR
  rw [List.length_map]
  exact Nat.le_trans (List.length_filter_le _ _) (by simp)
theorem alK_len {X : Sw} (ht : X.st.length ≤ 6) (FF : List (List (List Int))) (be : Int) : ∀ k, (alK X FF be k).length ≤ 6 * k
  | 0 => by simp [alK]
  | k + 1 => by
    have h1 := alK_len ht FF be k
    have h2 := alR_len X FF be k X.st.length
    rw [alK_succ, List.length_append]
    omega
theorem range_cut (g : Nat → Bool) (n : Nat) : ∀ d : Nat, (∀ t, n ≤ t → t < n + d → g t = false) → (List.range (n + d)).filter g = (List.range n).filter g
  | 0, _ => rfl
  | d + 1, h => by
    rw [← Nat.add_assoc, List.range_succ, List.filter_append, range_cut g n d (fun t h1 h2 => h t h1 (by omega))]
    simp [h (n + d) (by omega) (by omega)]
theorem flat_cut {α : Type} (f : Nat → List α) (n : Nat) : ∀ d : Nat, (∀ t, n ≤ t → t < n + d → f t = []) → (List.range (n + d)).flatMap f = (List.range n).flatMap f
  | 0, _ => rfl
  | d + 1, h => by
    rw [← Nat.add_assoc, List.range_succ, List.flatMap_append, flat_cut f n d (fun t h1 h2 => h t h1 (by omega))]
    simp [h (n + d) (by omega) (by omega)]
theorem flat_congr {α β : Type} {f g : α → List β} {l : List α} (h : ∀ x ∈ l, f x = g x) : l.flatMap f = l.flatMap g := by
  induction l with
  | nil => rfl
  | cons a l ih =>
    rw [List.flatMap_cons, List.flatMap_cons, h a List.mem_cons_self, ih fun x hx => h x (List.mem_cons_of_mem _ hx)]
theorem al_bit {X : Sw} (hok : XOk X) {k t : Nat} (hk : k < X.bs.length) : (ftL X X.bs.length []).all (awP X (earn X.vz (bestP X.vz)) k t) = ((alwP X.vz).get k).testBit t := by
  have hn3 := hok.nb3
  have hk3 : k < 3 := by omega
  have hab := alw_bits X.vz (earn X.vz (bestP X.vz)) hk3 t (plansV X.vz) (bestP X.vz)
  have key : (ftL X X.bs.length []).all (awP X (earn X.vz (bestP X.vz)) k t) = true ↔ ((alwP X.vz).get k).testBit t = true := by
    show _ ↔ ((alwF X.vz (earn X.vz (bestP X.vz)) (bestP X.vz) (plansV X.vz)).get k).testBit t = true
    rw [hab, List.all_eq_true]
    constructor
    · intro h
      have hq : ∀ q ∈ plansV X.vz, earn X.vz (bestP X.vz) ≤ earn X.vz q → (q.get k).testBit t = true := fun q hq hm => by
        obtain ⟨hpl, hpm⟩ := lists_plan hok hq
        have hin : listsL q X.bs.length ∈ ftL X X.bs.length [] := by
          have := ft_all hok hq X.bs.length (Nat.le_refl _)
          rw [Nat.sub_self, List.take_zero] at this
          exact this
        have h1 := h _ hin
        unfold awP at h1
        rw [earn_ea hok hpl, hpm, Bool.or_eq_true, decide_eq_true_eq] at h1
        rcases h1 with h1 | h1
        · omega
        · have hm := mask_test (l := (listsL q X.bs.length).getD k []) (fun x hx => by
            have hm2 : (listsL q X.bs.length).getD k [] ∈ listsL q X.bs.length := getD_mem' _ [] (by rw [listsL_len]; exact hk)
            exact ((plB_title hok hpl).2 _ hm2 x hx).1) t
          have hg : (planM (listsL q X.bs.length)).get k = mask ((listsL q X.bs.length).getD k []) := now_get _ (by rw [listsL_len]; exact hk) (by rw [listsL_len]; omega)
          rw [← hpm, hg, hm]; exact h1
      exact ⟨hq _ (best_in hok) (Int.le_refl _), hq⟩
    · rintro ⟨_, h⟩ P hP
      obtain ⟨hpl, hdf⟩ := ft_pl hok P hP
      have hl := (plB_parts hpl).1
      have hin := fit_in hok hpl (by rw [← dfB_fit hok hpl]; exact hdf)
      unfold awP
      rw [earn_ea hok hpl, Bool.or_eq_true, decide_eq_true_eq]
      rcases (by omega : earn X.vz (planM P) < earn X.vz (bestP X.vz) ∨ earn X.vz (bestP X.vz) ≤ earn X.vz (planM P)) with h1 | h1
      · exact .inl h1
      · refine .inr ?_
        have h2 := h _ hin h1
        have hg : (planM P).get k = mask (P.getD k []) := now_get _ (by omega) (by omega)
        have hm := mask_test (l := P.getD k []) (fun x hx => ((plB_title hok hpl).2 _ (getD_mem' _ [] (by omega)) x hx).1) t
        rw [← hm, ← hg]; exact h2
  cases h : ((alwP X.vz).get k).testBit t with
  | true => exact key.2 h
  | false =>
    rw [Bool.eq_false_iff]
    intro h2
    rw [key.1 h2] at h; cases h
theorem al_keep {X : Sw} (hok : XOk X) : alK X (ftL X X.bs.length []) (earn X.vz (bestP X.vz)) X.bs.length = keepL (alwP X.vz) := by
  have hn3 := hok.nb3
  have ht6 := hok.t6
  have hbest := (plans_mem hok.nb3 _).1 (best_in hok)
  have hsub : ∀ k, k < 3 → ∀ t, ((alwP X.vz).get k).testBit t = true → ((bestP X.vz).get k).testBit t = true := fun k hk t h =>
    ((alw_bits X.vz (earn X.vz (bestP X.vz)) hk t (plansV X.vz) (bestP X.vz)).1 h).1
  have e3 : keepL (alwP X.vz) = (List.range X.bs.length).flatMap (keepR (alwP X.vz)) := by
    show (List.range 3).flatMap (keepR (alwP X.vz)) = _
    obtain ⟨d, hd⟩ : ∃ d, 3 = X.bs.length + d := ⟨3 - X.bs.length, by omega⟩
    rw [hd]
    refine flat_cut _ _ d fun k h1 h2 => ?_
    have h0 := hbest.1 k (by omega) h1
    unfold keepR bitsOf bitsTo
    rw [show (List.range 6).filter ((alwP X.vz).get k).testBit = [] from ?_]
    · rfl
    · rw [List.filter_eq_nil_iff]
      intro t _ h
      have := hsub k (by omega) t h
      rw [h0] at this; simp at this
  rw [e3]
  unfold alK
  refine flat_congr fun k hk => ?_
  have hk : k < X.bs.length := List.mem_range.1 hk
  unfold alR keepR bitsOf bitsTo
  obtain ⟨d, hd⟩ : ∃ d, 6 = X.st.length + d := ⟨6 - X.st.length, by omega⟩
  rw [hd, range_cut _ X.st.length d fun t h1 h2 => ?_]
  · congr 1
    exact List.filter_congr fun t _ => al_bit hok hk
  · rw [Bool.eq_false_iff]
    intro h
    have h1' := hsub k (by omega) t h
    have hlt := (hbest.2.1 k hk).1
    have : ((bestP X.vz).get k).testBit t = false := Nat.testBit_lt_two_pow (Nat.lt_of_lt_of_le hlt (Nat.pow_le_pow_right (by omega) h1))
    rw [this] at h1'; cases h1'
end Go.Proofs.Ytipdohpbilabiaa
/-! The reference's Always. -/
namespace Go.Proofs.Ytipdohpbilabiaa
set_option linter.unusedSimpArgs false
set_option linter.unusedVariables false
open Go Go.RowKit

theorem all_take {α : Type} (f : α → Bool) {SS : List α} {j : Nat} {s : α} (h : SS.take (j + 1) = SS.take j ++ [s]) : (SS.take (j + 1)).all f = ((SS.take j).all f && f s) := by
  rw [h]; simp [List.all_append]
set_option maxRecDepth 100000 in
set_option maxHeartbeats 2000000 in
theorem RAlways_bad (ab ast ae ak : Option Addr) (cb cs ce ck : Nat) (X : Sw) (w : World) (hX : Swp w ab ast ae ak X) (hv : vB X = false) : Calls Try.prog 30 #[.agg #[.slice ab X.bs.length cb, .slice ast X.st.length cs, .slice ae X.er.length ce, .slice ak X.ks.length ck, .int .i64 X.ch]] w fun e w' => e = .returned (.tuple #[.slice none 0 0, .int .i64 70]) ∧ Below w.heap.size w w' := by
  obtain ⟨W, hW, hb, _, x0⟩ := boxes1 w #[.slice ab X.bs.length cb, .slice ast X.st.length cs, .slice ae X.er.length ce, .slice ak X.ks.length ck, .int .i64 X.ch] 26
  have hck := fun V (h : Below w.heap.size w V) => Check_any ab ast ae ak cb cs ce ck X V (hX.below h (Nat.le_refl _))
  rw [hv, show cod false = 70 from rfl] at hck
  clear hX hv
  have c0 := x0.cell 0 rfl; have c1 := x0.cell 1 rfl; have c2 := x0.cell 2 rfl; have c3 := x0.cell 3 rfl; have c4 := x0.cell 4 rfl
  go_enter Try.func30, Try.ntmps30
  go_wp2_with fail
  refine (hck _ hb).mono ?_
  rintro e W1 ⟨rfl, hb1⟩
  replace hb := hb.trans (hb1.mono hb.size)
  clear hW c0 c1 c2 c3 c4 hb1 hck x0
  go_wp2
  go_ret2
  exact ⟨rfl, hb⟩

set_option maxRecDepth 100000 in
set_option maxHeartbeats 6000000 in
theorem RAlways_ok (ab ast ae ak : Option Addr) (cb cs ce ck : Nat) (X : Sw) (w : World) (hX : Swp w ab ast ae ak X) (hv : vB X = true) (L : List (Int × Int)) (hL : L = keepL (alwP X.vz)) : Calls Try.prog 30 #[.agg #[.slice ab X.bs.length cb, .slice ast X.st.length cs, .slice ae X.er.length ce, .slice ak X.ks.length ck, .int .i64 X.ch]] w fun e w' => Below w.heap.size w w' ∧ ∃ a c, e = .returned (.tuple #[.slice a L.length c, .int .i64 0]) ∧ Prs w' a L := by
  obtain ⟨i0, hi0, iz0, iz1, iz2⟩ := info_parts info55
  have hok := vB_iff hv
  obtain ⟨W, hW, hb, _, x0⟩ := boxes1 w #[.slice ab X.bs.length cb, .slice ast X.st.length cs, .slice ae X.er.length ce, .slice ak X.ks.length ck, .int .i64 X.ch] 26
  have hck := fun V (h : Below w.heap.size w V) => Check_any ab ast ae ak cb cs ce ck X V (hX.below h (Nat.le_refl _))
  rw [hv, show cod true = 0 from rfl] at hck
  have hft := fun V (h : Below w.heap.size w V) => fitting_all ab ast ae ak cb cs ce ck X hok V (hX.below h (Nat.le_refl _))
  have hms := fun V (h : Below w.heap.size w V) a c => mst_any ab ast ae ak cb cs ce ck X hok a c (ftL X X.bs.length []) (fun P hP => (ft_pl hok P hP).1) (ftL_small hok) V (hX.below h (Nat.le_refl _))
  rw [mst_best hok] at hms
  have HEH : Hid (∀ (V : World) (P : List (List Int)) (al : Option Addr) (cl : Nat), P ∈ ftL X X.bs.length [] → Below w.heap.size w V → Py V al P → Calls Try.prog 37 #[.agg #[.slice ab X.bs.length cb, .slice ast X.st.length cs, .slice ae X.er.length ce, .slice ak X.ks.length ck, .int .i64 X.ch], .slice al P.length cl] V fun e w' => e = .returned (.int .i64 (eaF X P P.length)) ∧ Below V.heap.size V w') := hid fun V P al cl hP hV hI =>
    EarnsAll_pl ab ast ae ak cb cs ce ck X hok al cl P (ft_pl hok P hP).1 V (hX.below hV (Nat.le_refl _)) hI.lss
  have HPL : Hid (∀ P ∈ ftL X X.bs.length [], P.length = X.bs.length) := hid fun P hP => (plB_parts (ft_pl hok P hP).1).1
  have HRES := hid (al_keep hok)
  rw [← hL] at HRES
  obtain ⟨be, hbe⟩ : ∃ be, be = earn X.vz (bestP X.vz) := ⟨_, rfl⟩
  rw [← hbe] at hms HRES
  have hfl := ftL_small hok
  have hnb3 := hok.nb3
  have hnt6 := hok.t6
  have HKL := hid (fun FF be k => alK_len hok.t6 FF be k)
  have HRL := hid (fun FF be k m => alR_len X FF be k m)
  obtain ⟨FF, hFF⟩ : ∃ FF, FF = ftL X X.bs.length [] := ⟨_, rfl⟩
  rw [← hFF] at hft hms HEH HPL HRES hfl
  have HLL := hid (show L.length ≤ 18 by rw [← HRES.out]; have := HKL.out FF be X.bs.length; omega)
  have HLR := hid (show ∀ x ∈ L, 0 ≤ x.1 ∧ x.1 < 3 ∧ 0 ≤ x.2 ∧ x.2 < 6 from fun x hx => keepK_rng (alwP X.vz) 3 (Nat.le_refl _) x (by rw [hL] at hx; exact hx))
  clear hX hv hok hbe hFF hL
  obtain ⟨nF, hnF⟩ : ∃ nF, nF = FF.length := ⟨_, rfl⟩
  unfold FtP at hft
  rw [← hnF] at hfl hft hms
  have HNF := hid hnF
  clear hnF
  obtain ⟨nB, hnB⟩ : ∃ nB, nB = X.bs.length := ⟨_, rfl⟩
  rw [← hnB] at x0 hW hck hft hms HRES HEH HPL hnb3 ⊢
  clear hnB
  obtain ⟨nS, hnS⟩ : ∃ nS, nS = X.st.length := ⟨_, rfl⟩
  rw [← hnS] at x0 hW hck hft hms HEH hnt6 ⊢
  have HNS := hid hnS
  clear hnS
  have c0 := x0.cell 0 rfl; have c1 := x0.cell 1 rfl; have c2 := x0.cell 2 rfl; have c3 := x0.cell 3 rfl; have c4 := x0.cell 4 rfl
  go_enter Try.func30, Try.ntmps30
  go_wp2_with fail
  refine (hck _ hb).mono ?_
  rintro e W1 ⟨rfl, hb1⟩
  replace hb := hb.trans (hb1.mono hb.size)
  replace x0 := x0.below hb1
  clear hW c0 c1 c2 c3 c4 hb1 hck
  have c0 := x0.cell 0 rfl; have c1 := x0.cell 1 rfl; have c2 := x0.cell 2 rfl; have c3 := x0.cell 3 rfl; have c4 := x0.cell 4 rfl
  go_wp2_with fail
  refine (hft _ hb).mono ?_
  rintro e W2 ⟨hb1, aF, cF, rfl, hR⟩
  replace hb := hb.trans (hb1.mono hb.size)
  replace x0 := x0.below hb1
  clear c0 c1 c2 c3 c4 hb1 hft
  have c0 := x0.cell 0 rfl; have c1 := x0.cell 1 rfl; have c2 := x0.cell 2 rfl; have c3 := x0.cell 3 rfl; have c4 := x0.cell 4 rfl
  go_wp2_with fail
  refine (hms _ hb aF cF hR).mono ?_
  rintro e W3 ⟨rfl, hb1⟩
  replace hb := hb.trans (hb1.mono hb.size)
  replace x0 := x0.below hb1
  replace hR := hR.below hb1 (Nat.le_refl _)
  clear c0 c1 c2 c3 c4 hb1 hms
  have hWs := hb.size
  go_wp2
  go_loopw [7, 8] (fun v7 v8 wr => ∃ (k q : Nat) (a : Option Addr) (c : Nat), k ≤ nB ∧ Hid (q = (alK X FF be k).length) ∧ v8 = .int .i64 (k : Int) ∧ v7 = .slice a q c ∧ wr.ownsRow W3.heap.size 55 2 (.slice a q c) q (pcells (alK X FF be k)) ∧ Below W3.heap.size W3 wr) (fun _ v8 _ => nB - (intOf v8).toNat)
  case atStart => exact ⟨0, 0, none, 0, Nat.zero_le _, hid rfl, rfl, rfl, World.ownsRow_nil _ _ _ _, Below.refl _ _⟩
  case round =>
    obtain ⟨k, q, a, c, hk, HQ, rfl, rfl, hown, hb1⟩ := hrel
    have xr := x0.below hb1
    by_cases hkl : k < nB
    · have hkI : (k : Int) < nB := by omega
      have hk0 : (0 : Int) ≤ (k : Int) := by omega
      have c0 := xr.cell 0 rfl; have c1 := xr.cell 1 rfl; have c2 := xr.cell 2 rfl; have c3 := xr.cell 3 rfl; have c4 := xr.cell 4 rfl
      have HX := hid (And.intro HQ hown)
      clear HQ hown
      go_wp2
      clear c0 c1 c2 c3 c4
      obtain ⟨wa, hwa⟩ : ∃ wa : World, wa = wr := ⟨_, rfl⟩
      rw [← hwa] at HX hb1 ⊢
      clear xr hwa
      go_loopw [7, 9] (fun v7 v9 wr => ∃ (t q : Nat) (a : Option Addr) (c : Nat), t ≤ nS ∧ Hid (q = (alK X FF be k ++ alR X FF be k t).length) ∧ v9 = .int .i64 (t : Int) ∧ v7 = .slice a q c ∧ wr.ownsRow W3.heap.size 55 2 (.slice a q c) q (pcells (alK X FF be k ++ alR X FF be k t)) ∧ Below W3.heap.size W3 wr) (fun _ v9 _ => nS - (intOf v9).toNat)
      case atStart => exact ⟨0, q, a, c, Nat.zero_le _, hid (by rw [show alR X FF be k 0 = [] from rfl, List.append_nil]; exact HX.out.1.out), rfl, rfl, by rw [show alR X FF be k 0 = [] from rfl, List.append_nil]; exact HX.out.2, hb1⟩
      case round =>
        clear HX hb1
        obtain ⟨t, q, a, c, ht, HQ, rfl, rfl, hown, hb1⟩ := hrel
        have xr := x0.below hb1
        by_cases htl : t < nS
        · have htI : (t : Int) < nS := by omega
          have ht0 : (0 : Int) ≤ (t : Int) := by omega
          have hq24 : q ≤ 24 := by
            have h1 := HKL.out FF be k
            have h2 := HRL.out FF be k t
            rw [HQ.out, List.length_append]; omega
          have c0 := xr.cell 0 rfl; have c1 := xr.cell 1 rfl; have c2 := xr.cell 2 rfl; have c3 := xr.cell 3 rfl; have c4 := xr.cell 4 rfl
          have HX := hid (And.intro HQ hown)
          clear HQ hown
          go_wp2
          clear c0 c1 c2 c3 c4
          obtain ⟨wo, hwo⟩ : ∃ wo : World, wo = wr := ⟨_, rfl⟩
          rw [← hwo] at HX hb1 ⊢
          clear xr hwo
          go_loopw [10, 11] (fun v10 v11 wr => ∃ j : Nat, j ≤ nF ∧ v11 = .int .i64 (j : Int) ∧ v10 = .bool ((FF.take j).all (awP X be k t)) ∧ Below wo.heap.size wo wr) (fun _ v11 _ => nF - (intOf v11).toNat)
          case atStart => exact ⟨0, Nat.zero_le _, rfl, rfl, Below.refl _ _⟩
          case round =>
            obtain ⟨j, hj, rfl, rfl, hb2⟩ := hrel
            by_cases hjl : j < nF
            · have hbr := hb1.trans (hb2.mono hb1.size)
              have hbw := hb.trans (hbr.mono hWs)
              have xr := x0.below hbr
              have hR1 := hR.below hbr (Nat.le_refl _)
              obtain ⟨bF, oF, s, a', c', hap, hbl, hc, hI, hmem, _, htk⟩ := hR1.at (k := j) (by rw [← HNF.out]; exact hjl)
              subst hap
              have hsl := HPL.out s hmem
              rw [hsl] at hc
              obtain ⟨b2, off2, l, a2, c2, hap2, hbl2, hc2, hI2, _, hgl⟩ := hI.at (k := k) (by omega)
              have hgd : s.getD k [] = l := by rw [List.getD_eq_getElem?_getD, hgl.out]; rfl
              have hjI : (j : Int) < nF := by omega
              have hj0 : (0 : Int) ≤ (j : Int) := by omega
              have hei := fun V (h : BlS wr V) => HEH.out V s a' c' hmem (hbw.trans ((show Below wr.heap.size wr V from h).mono hbw.size)) (hI.below (show Below wr.heap.size wr V from h) (Nat.le_refl _))
              rw [hsl] at hei
              subst hap2
              have hin := fun V (h : BlS wr V) => in_any a2 c2 l (t : Int) V (hI2.1.below (show Below wr.heap.size wr V from h) (Nat.le_refl _))
              have HS := hid (all_take (awP X be k t) htk.out)
              have haw : awP X be k t s = (decide (eaF X s nB < be) || inL (t : Int) l) := by unfold awP; rw [hsl, hgd]
              rw [haw] at HS
              obtain ⟨y, hy⟩ : ∃ y, y = eaF X s nB := ⟨_, rfl⟩
              rw [← hy] at hei HS
              obtain ⟨il, hil⟩ : ∃ il, il = inL (t : Int) l := ⟨_, rfl⟩
              rw [← hil] at hin HS
              obtain ⟨m, hm⟩ : ∃ m, m = l.length := ⟨_, rfl⟩
              rw [← hm] at hc2 hin
              obtain ⟨cur, hcur⟩ : ∃ cur, cur = (FF.take j).all (awP X be k t) := ⟨_, rfl⟩
              rw [← hcur] at HS ⊢
              have hcc : ClB wr bF (oF + j) (.slice (some ⟨b2, off2, none⟩) nB c') := ⟨hc, hbl⟩
              have hcc2 : ClB wr b2 (off2 + k) (.slice a2 m c2) := ⟨hc2, hbl2⟩
              clear hR1 hI hgl hgd hm hy hil hcur haw hI2 hsl hc hc2 htk
              cases cur with
              | false =>
                have HS1 := hid (show (FF.take (j + 1)).all (awP X be k t) = false by rw [HS.out]; rfl)
                clear HS hei hin
                go_upto_region 17 with fail
                have S0 : BlS wr wr.drew := (Below.refl wr.heap.size wr).drew
                refine wp_region_head 22 (fun w' => BlS wr w') (by kernel_rfl) rfl ?_
                generalize wr.drew = Y0 at *
                refine HeadAt.take (i := 0) (.bool false) rfl (by kernel_rfl) (.inl ⟨rfl, fun _ _ => by simp [go_sem]⟩) S0 ?_
                (try simp only [Act.put, List.getElem_toArray, List.getElem_cons_succ, List.getElem_cons_zero, List.setIfInBounds_toArray, List.set_cons_succ, List.set_cons_zero])
                refine HeadAt.take (i := 1) (.bool false) rfl (by kernel_rfl) (.inl ⟨rfl, fun _ _ => by simp [go_sem]⟩) S0 ?_
                (try simp only [Act.put, List.getElem_toArray, List.getElem_cons_succ, List.getElem_cons_zero, List.setIfInBounds_toArray, List.set_cons_succ, List.set_cons_zero])
                refine HeadAt.take (i := 2) undef rfl (by kernel_rfl) (.inr ⟨by kernel_rfl, rfl⟩) S0 ?_
                (try simp only [Act.put, List.getElem_toArray, List.getElem_cons_succ, List.getElem_cons_zero, List.setIfInBounds_toArray, List.set_cons_succ, List.set_cons_zero])
                refine HeadAt.take (i := 3) undef rfl (by kernel_rfl) (.inr ⟨by kernel_rfl, rfl⟩) S0 ?_
                (try simp only [Act.put, List.getElem_toArray, List.getElem_cons_succ, List.getElem_cons_zero, List.setIfInBounds_toArray, List.set_cons_succ, List.set_cons_zero])
                refine HeadAt.take (i := 4) undef rfl (by kernel_rfl) (.inr ⟨by kernel_rfl, rfl⟩) S0 ?_
                (try simp only [Act.put, List.getElem_toArray, List.getElem_cons_succ, List.getElem_cons_zero, List.setIfInBounds_toArray, List.set_cons_succ, List.set_cons_zero])
                refine HeadAt.take (i := 5) undef rfl (by kernel_rfl) (.inr ⟨by kernel_rfl, rfl⟩) S0 ?_
                (try simp only [Act.put, List.getElem_toArray, List.getElem_cons_succ, List.getElem_cons_zero, List.setIfInBounds_toArray, List.set_cons_succ, List.set_cons_zero])
                refine HeadAt.take (i := 6) undef rfl (by kernel_rfl) (.inr ⟨by kernel_rfl, rfl⟩) S0 ?_
                (try simp only [Act.put, List.getElem_toArray, List.getElem_cons_succ, List.getElem_cons_zero, List.setIfInBounds_toArray, List.set_cons_succ, List.set_cons_zero])
                refine HeadAt.take (i := 7) undef rfl (by kernel_rfl) (.inr ⟨by kernel_rfl, rfl⟩) S0 ?_
                (try simp only [Act.put, List.getElem_toArray, List.getElem_cons_succ, List.getElem_cons_zero, List.setIfInBounds_toArray, List.set_cons_succ, List.set_cons_zero])
                refine HeadAt.take (i := 8) undef rfl (by kernel_rfl) (.inr ⟨by kernel_rfl, rfl⟩) S0 ?_
                (try simp only [Act.put, List.getElem_toArray, List.getElem_cons_succ, List.getElem_cons_zero, List.setIfInBounds_toArray, List.set_cons_succ, List.set_cons_zero])
                refine HeadAt.take (i := 9) undef rfl (by kernel_rfl) (.inr ⟨by kernel_rfl, rfl⟩) S0 ?_
                (try simp only [Act.put, List.getElem_toArray, List.getElem_cons_succ, List.getElem_cons_zero, List.setIfInBounds_toArray, List.set_cons_succ, List.set_cons_zero])
                refine HeadAt.take (i := 10) undef rfl (by kernel_rfl) (.inr ⟨by kernel_rfl, rfl⟩) S0 ?_
                (try simp only [Act.put, List.getElem_toArray, List.getElem_cons_succ, List.getElem_cons_zero, List.setIfInBounds_toArray, List.set_cons_succ, List.set_cons_zero])
                refine HeadAt.take (i := 11) undef rfl (by kernel_rfl) (.inr ⟨by kernel_rfl, rfl⟩) S0 ?_
                (try simp only [Act.put, List.getElem_toArray, List.getElem_cons_succ, List.getElem_cons_zero, List.setIfInBounds_toArray, List.set_cons_succ, List.set_cons_zero])
                refine HeadAt.take (i := 12) undef rfl (by kernel_rfl) (.inr ⟨by kernel_rfl, rfl⟩) S0 ?_
                (try simp only [Act.put, List.getElem_toArray, List.getElem_cons_succ, List.getElem_cons_zero, List.setIfInBounds_toArray, List.set_cons_succ, List.set_cons_zero])
                refine HeadAt.take (i := 13) undef rfl (by kernel_rfl) (.inr ⟨by kernel_rfl, rfl⟩) S0 ?_
                (try simp only [Act.put, List.getElem_toArray, List.getElem_cons_succ, List.getElem_cons_zero, List.setIfInBounds_toArray, List.set_cons_succ, List.set_cons_zero])
                refine HeadAt.take (i := 14) undef rfl (by kernel_rfl) (.inr ⟨by kernel_rfl, rfl⟩) S0 ?_
                (try simp only [Act.put, List.getElem_toArray, List.getElem_cons_succ, List.getElem_cons_zero, List.setIfInBounds_toArray, List.set_cons_succ, List.set_cons_zero])
                refine HeadAt.take (i := 15) undef rfl (by kernel_rfl) (.inr ⟨by kernel_rfl, rfl⟩) S0 ?_
                (try simp only [Act.put, List.getElem_toArray, List.getElem_cons_succ, List.getElem_cons_zero, List.setIfInBounds_toArray, List.set_cons_succ, List.set_cons_zero])
                refine HeadAt.take (i := 16) undef rfl (by kernel_rfl) (.inr ⟨by kernel_rfl, rfl⟩) S0 ?_
                (try simp only [Act.put, List.getElem_toArray, List.getElem_cons_succ, List.getElem_cons_zero, List.setIfInBounds_toArray, List.set_cons_succ, List.set_cons_zero])
                refine HeadAt.take (i := 17) undef rfl (by kernel_rfl) (.inr ⟨by kernel_rfl, rfl⟩) S0 ?_
                (try simp only [Act.put, List.getElem_toArray, List.getElem_cons_succ, List.getElem_cons_zero, List.setIfInBounds_toArray, List.set_cons_succ, List.set_cons_zero])
                refine HeadAt.take (i := 18) undef rfl (by kernel_rfl) (.inr ⟨by kernel_rfl, rfl⟩) S0 ?_
                (try simp only [Act.put, List.getElem_toArray, List.getElem_cons_succ, List.getElem_cons_zero, List.setIfInBounds_toArray, List.set_cons_succ, List.set_cons_zero])
                refine HeadAt.take (i := 19) undef rfl (by kernel_rfl) (.inr ⟨by kernel_rfl, rfl⟩) S0 ?_
                (try simp only [Act.put, List.getElem_toArray, List.getElem_cons_succ, List.getElem_cons_zero, List.setIfInBounds_toArray, List.set_cons_succ, List.set_cons_zero])
                refine HeadAt.take (i := 20) undef rfl (by kernel_rfl) (.inr ⟨by kernel_rfl, rfl⟩) S0 ?_
                (try simp only [Act.put, List.getElem_toArray, List.getElem_cons_succ, List.getElem_cons_zero, List.setIfInBounds_toArray, List.set_cons_succ, List.set_cons_zero])
                refine HeadAt.take (i := 21) (.bool false) rfl (by kernel_rfl) (.inl ⟨rfl, fun _ _ => by simp [go_sem]⟩) S0 ?_
                (try simp only [Act.put, List.getElem_toArray, List.getElem_cons_succ, List.getElem_cons_zero, List.setIfInBounds_toArray, List.set_cons_succ, List.set_cons_zero])
                refine HeadAt.done (by kernel_rfl) ?_
                (try simp only [Act.put, List.drop_succ_cons, List.drop_zero, List.getElem_toArray, List.getElem_cons_succ, List.getElem_cons_zero])
                go_wp2_with fail
                refine NoPanic.normal ?_
                have hb4 := hb2.trans (Below.mono S0 hb2.size)
                clear S0
                go_wp2
                go_roundw
                case rel => exact ⟨j + 1, by omega, by simp, by rw [HS1.out], hb4⟩
                case measure => simp [intOf]; omega
              | true =>
                by_cases hyb : y < be
                · have HS1 := hid (show (FF.take (j + 1)).all (awP X be k t) = true by rw [HS.out]; simp [hyb])
                  clear HS hin
                  go_upto_region 17 with fail
                  have S0 : BlS wr wr.drew := (Below.refl wr.heap.size wr).drew
                  refine wp_region_head 22 (fun w' => BlS wr w') (by kernel_rfl) rfl ?_
                  generalize wr.drew = Y0 at *
                  refine HeadAt.take (i := 0) (.bool true) rfl (by kernel_rfl) (.inl ⟨rfl, fun _ _ => by simp [go_sem]⟩) S0 ?_
                  (try simp only [Act.put, List.getElem_toArray, List.getElem_cons_succ, List.getElem_cons_zero, List.setIfInBounds_toArray, List.set_cons_succ, List.set_cons_zero])
                  refine HeadAt.take (i := 1) (.bool true) rfl (by kernel_rfl) (.inl ⟨rfl, fun _ _ => by simp [go_sem]⟩) S0 ?_
                  (try simp only [Act.put, List.getElem_toArray, List.getElem_cons_succ, List.getElem_cons_zero, List.setIfInBounds_toArray, List.set_cons_succ, List.set_cons_zero])
                  refine HeadAt.take (i := 2) (.agg #[.slice ab nB cb, .slice ast nS cs, .slice ae X.er.length ce, .slice ak X.ks.length ck, .int .i64 X.ch]) rfl (by kernel_rfl) (.inl ⟨rfl, fun w' z => ?_⟩) S0 ?_
                  · (have z0 := (xr.below z).cell 0 rfl; have z1 := (xr.below z).cell 1 rfl; have z2 := (xr.below z).cell 2 rfl; have z3 := (xr.below z).cell 3 rfl; have z4 := (xr.below z).cell 4 rfl; simp [go_sem, z0, z1, z2, z3, z4])
                  (try simp only [Act.put, List.getElem_toArray, List.getElem_cons_succ, List.getElem_cons_zero, List.setIfInBounds_toArray, List.set_cons_succ, List.set_cons_zero])
                  refine HeadAt.take (i := 3) (.slice (some ⟨bF, oF, none⟩) nF cF) rfl (by kernel_rfl) (.inl ⟨rfl, fun _ _ => by simp [go_sem]⟩) S0 ?_
                  (try simp only [Act.put, List.getElem_toArray, List.getElem_cons_succ, List.getElem_cons_zero, List.setIfInBounds_toArray, List.set_cons_succ, List.set_cons_zero])
                  refine HeadAt.take (i := 4) (.int .i64 (j : Int)) rfl (by kernel_rfl) (.inl ⟨rfl, fun _ _ => by simp [go_sem]⟩) S0 ?_
                  (try simp only [Act.put, List.getElem_toArray, List.getElem_cons_succ, List.getElem_cons_zero, List.setIfInBounds_toArray, List.set_cons_succ, List.set_cons_zero])
                  refine HeadAt.take (i := 5) (.pointer (some ⟨bF, oF + j, none⟩)) rfl (by kernel_rfl) (.inl ⟨rfl, fun w' z => ?_⟩) S0 ?_
                  · (simp [go_sem, hjI, hj0])
                  (try simp only [Act.put, List.getElem_toArray, List.getElem_cons_succ, List.getElem_cons_zero, List.setIfInBounds_toArray, List.set_cons_succ, List.set_cons_zero])
                  refine HeadAt.take (i := 6) (.slice (some ⟨b2, off2, none⟩) nB c') rfl (by kernel_rfl) (.inl ⟨rfl, fun w' z => ?_⟩) S0 ?_
                  · (have z0 := (hcc.below z).1; simp [go_sem, z0])
                  (try simp only [Act.put, List.getElem_toArray, List.getElem_cons_succ, List.getElem_cons_zero, List.setIfInBounds_toArray, List.set_cons_succ, List.set_cons_zero])
                  refine HeadAt.take (i := 8) (.int .i64 be) rfl (by kernel_rfl) (.inl ⟨rfl, fun _ _ => by simp [go_sem]⟩) S0 ?_
                  (try simp only [Act.put, List.getElem_toArray, List.getElem_cons_succ, List.getElem_cons_zero, List.setIfInBounds_toArray, List.set_cons_succ, List.set_cons_zero])
                  refine HeadAt.one (i := 7) rfl (by kernel_rfl) ?_
                  generalize hK : Upto _ _ = K0
                  (try simp only [Act.put, List.getElem_toArray, List.getElem_cons_succ, List.getElem_cons_zero, List.setIfInBounds_toArray, List.set_cons_succ, List.set_cons_zero])
                  go_wp2_with fail
                  refine (hei _ S0).mono ?_
                  rintro e V1 ⟨rfl, hb3⟩
                  go_wp2_with fail
                  have S1 : BlS wr V1 := Below.trans S0 (hb3.mono (Below.size S0))
                  subst hK
                  refine ⟨S1, ?_⟩
                  (try simp only [Act.put, List.getElem_toArray, List.getElem_cons_succ, List.getElem_cons_zero, List.setIfInBounds_toArray, List.set_cons_succ, List.set_cons_zero])
                  clear S0 hb3
                  have S0 := S1
                  clear S1
                  refine HeadAt.take (i := 9) (.bool true) rfl (by kernel_rfl) (.inl ⟨rfl, fun w' z => ?_⟩) S0 ?_
                  · (simp [go_sem, hyb])
                  (try simp only [Act.put, List.getElem_toArray, List.getElem_cons_succ, List.getElem_cons_zero, List.setIfInBounds_toArray, List.set_cons_succ, List.set_cons_zero])
                  refine HeadAt.take (i := 10) (.bool true) rfl (by kernel_rfl) (.inl ⟨rfl, fun _ _ => by simp [go_sem]⟩) S0 ?_
                  (try simp only [Act.put, List.getElem_toArray, List.getElem_cons_succ, List.getElem_cons_zero, List.setIfInBounds_toArray, List.set_cons_succ, List.set_cons_zero])
                  refine HeadAt.take (i := 11) undef rfl (by kernel_rfl) (.inr ⟨by kernel_rfl, rfl⟩) S0 ?_
                  (try simp only [Act.put, List.getElem_toArray, List.getElem_cons_succ, List.getElem_cons_zero, List.setIfInBounds_toArray, List.set_cons_succ, List.set_cons_zero])
                  refine HeadAt.take (i := 12) undef rfl (by kernel_rfl) (.inr ⟨by kernel_rfl, rfl⟩) S0 ?_
                  (try simp only [Act.put, List.getElem_toArray, List.getElem_cons_succ, List.getElem_cons_zero, List.setIfInBounds_toArray, List.set_cons_succ, List.set_cons_zero])
                  refine HeadAt.take (i := 13) undef rfl (by kernel_rfl) (.inr ⟨by kernel_rfl, rfl⟩) S0 ?_
                  (try simp only [Act.put, List.getElem_toArray, List.getElem_cons_succ, List.getElem_cons_zero, List.setIfInBounds_toArray, List.set_cons_succ, List.set_cons_zero])
                  refine HeadAt.take (i := 14) undef rfl (by kernel_rfl) (.inr ⟨by kernel_rfl, rfl⟩) S0 ?_
                  (try simp only [Act.put, List.getElem_toArray, List.getElem_cons_succ, List.getElem_cons_zero, List.setIfInBounds_toArray, List.set_cons_succ, List.set_cons_zero])
                  refine HeadAt.take (i := 15) undef rfl (by kernel_rfl) (.inr ⟨by kernel_rfl, rfl⟩) S0 ?_
                  (try simp only [Act.put, List.getElem_toArray, List.getElem_cons_succ, List.getElem_cons_zero, List.setIfInBounds_toArray, List.set_cons_succ, List.set_cons_zero])
                  refine HeadAt.take (i := 16) undef rfl (by kernel_rfl) (.inr ⟨by kernel_rfl, rfl⟩) S0 ?_
                  (try simp only [Act.put, List.getElem_toArray, List.getElem_cons_succ, List.getElem_cons_zero, List.setIfInBounds_toArray, List.set_cons_succ, List.set_cons_zero])
                  refine HeadAt.take (i := 17) undef rfl (by kernel_rfl) (.inr ⟨by kernel_rfl, rfl⟩) S0 ?_
                  (try simp only [Act.put, List.getElem_toArray, List.getElem_cons_succ, List.getElem_cons_zero, List.setIfInBounds_toArray, List.set_cons_succ, List.set_cons_zero])
                  refine HeadAt.take (i := 18) undef rfl (by kernel_rfl) (.inr ⟨by kernel_rfl, rfl⟩) S0 ?_
                  (try simp only [Act.put, List.getElem_toArray, List.getElem_cons_succ, List.getElem_cons_zero, List.setIfInBounds_toArray, List.set_cons_succ, List.set_cons_zero])
                  refine HeadAt.take (i := 19) undef rfl (by kernel_rfl) (.inr ⟨by kernel_rfl, rfl⟩) S0 ?_
                  (try simp only [Act.put, List.getElem_toArray, List.getElem_cons_succ, List.getElem_cons_zero, List.setIfInBounds_toArray, List.set_cons_succ, List.set_cons_zero])
                  refine HeadAt.take (i := 20) (.bool true) rfl (by kernel_rfl) (.inl ⟨rfl, fun _ _ => by simp [go_sem]⟩) S0 ?_
                  (try simp only [Act.put, List.getElem_toArray, List.getElem_cons_succ, List.getElem_cons_zero, List.setIfInBounds_toArray, List.set_cons_succ, List.set_cons_zero])
                  refine HeadAt.take (i := 21) (.bool true) rfl (by kernel_rfl) (.inl ⟨rfl, fun _ _ => by simp [go_sem]⟩) S0 ?_
                  (try simp only [Act.put, List.getElem_toArray, List.getElem_cons_succ, List.getElem_cons_zero, List.setIfInBounds_toArray, List.set_cons_succ, List.set_cons_zero])
                  refine HeadAt.done (by kernel_rfl) ?_
                  (try simp only [Act.put, List.drop_succ_cons, List.drop_zero, List.getElem_toArray, List.getElem_cons_succ, List.getElem_cons_zero])
                  go_wp2_with fail
                  refine NoPanic.normal ?_
                  have hb4 := hb2.trans (Below.mono S0 hb2.size)
                  clear S0
                  go_wp2
                  go_roundw
                  case rel => exact ⟨j + 1, by omega, by simp, by rw [HS1.out], hb4⟩
                  case measure => simp [intOf]; omega
                · have HS1 := hid (show (FF.take (j + 1)).all (awP X be k t) = il by rw [HS.out]; simp [hyb])
                  clear HS
                  go_upto_region 17 with fail
                  have S0 : BlS wr wr.drew := (Below.refl wr.heap.size wr).drew
                  refine wp_region_head 22 (fun w' => BlS wr w') (by kernel_rfl) rfl ?_
                  generalize wr.drew = Y0 at *
                  refine HeadAt.take (i := 0) (.bool true) rfl (by kernel_rfl) (.inl ⟨rfl, fun _ _ => by simp [go_sem]⟩) S0 ?_
                  (try simp only [Act.put, List.getElem_toArray, List.getElem_cons_succ, List.getElem_cons_zero, List.setIfInBounds_toArray, List.set_cons_succ, List.set_cons_zero])
                  refine HeadAt.take (i := 1) (.bool true) rfl (by kernel_rfl) (.inl ⟨rfl, fun _ _ => by simp [go_sem]⟩) S0 ?_
                  (try simp only [Act.put, List.getElem_toArray, List.getElem_cons_succ, List.getElem_cons_zero, List.setIfInBounds_toArray, List.set_cons_succ, List.set_cons_zero])
                  refine HeadAt.take (i := 2) (.agg #[.slice ab nB cb, .slice ast nS cs, .slice ae X.er.length ce, .slice ak X.ks.length ck, .int .i64 X.ch]) rfl (by kernel_rfl) (.inl ⟨rfl, fun w' z => ?_⟩) S0 ?_
                  · (have z0 := (xr.below z).cell 0 rfl; have z1 := (xr.below z).cell 1 rfl; have z2 := (xr.below z).cell 2 rfl; have z3 := (xr.below z).cell 3 rfl; have z4 := (xr.below z).cell 4 rfl; simp [go_sem, z0, z1, z2, z3, z4])
                  (try simp only [Act.put, List.getElem_toArray, List.getElem_cons_succ, List.getElem_cons_zero, List.setIfInBounds_toArray, List.set_cons_succ, List.set_cons_zero])
                  refine HeadAt.take (i := 3) (.slice (some ⟨bF, oF, none⟩) nF cF) rfl (by kernel_rfl) (.inl ⟨rfl, fun _ _ => by simp [go_sem]⟩) S0 ?_
                  (try simp only [Act.put, List.getElem_toArray, List.getElem_cons_succ, List.getElem_cons_zero, List.setIfInBounds_toArray, List.set_cons_succ, List.set_cons_zero])
                  refine HeadAt.take (i := 4) (.int .i64 (j : Int)) rfl (by kernel_rfl) (.inl ⟨rfl, fun _ _ => by simp [go_sem]⟩) S0 ?_
                  (try simp only [Act.put, List.getElem_toArray, List.getElem_cons_succ, List.getElem_cons_zero, List.setIfInBounds_toArray, List.set_cons_succ, List.set_cons_zero])
                  refine HeadAt.take (i := 5) (.pointer (some ⟨bF, oF + j, none⟩)) rfl (by kernel_rfl) (.inl ⟨rfl, fun w' z => ?_⟩) S0 ?_
                  · (simp [go_sem, hjI, hj0])
                  (try simp only [Act.put, List.getElem_toArray, List.getElem_cons_succ, List.getElem_cons_zero, List.setIfInBounds_toArray, List.set_cons_succ, List.set_cons_zero])
                  refine HeadAt.take (i := 6) (.slice (some ⟨b2, off2, none⟩) nB c') rfl (by kernel_rfl) (.inl ⟨rfl, fun w' z => ?_⟩) S0 ?_
                  · (have z0 := (hcc.below z).1; simp [go_sem, z0])
                  (try simp only [Act.put, List.getElem_toArray, List.getElem_cons_succ, List.getElem_cons_zero, List.setIfInBounds_toArray, List.set_cons_succ, List.set_cons_zero])
                  refine HeadAt.take (i := 8) (.int .i64 be) rfl (by kernel_rfl) (.inl ⟨rfl, fun _ _ => by simp [go_sem]⟩) S0 ?_
                  (try simp only [Act.put, List.getElem_toArray, List.getElem_cons_succ, List.getElem_cons_zero, List.setIfInBounds_toArray, List.set_cons_succ, List.set_cons_zero])
                  refine HeadAt.one (i := 7) rfl (by kernel_rfl) ?_
                  generalize hK : Upto _ _ = K0
                  (try simp only [Act.put, List.getElem_toArray, List.getElem_cons_succ, List.getElem_cons_zero, List.setIfInBounds_toArray, List.set_cons_succ, List.set_cons_zero])
                  go_wp2_with fail
                  refine (hei _ S0).mono ?_
                  rintro e V1 ⟨rfl, hb3⟩
                  go_wp2_with fail
                  have S1 : BlS wr V1 := Below.trans S0 (hb3.mono (Below.size S0))
                  subst hK
                  refine ⟨S1, ?_⟩
                  (try simp only [Act.put, List.getElem_toArray, List.getElem_cons_succ, List.getElem_cons_zero, List.setIfInBounds_toArray, List.set_cons_succ, List.set_cons_zero])
                  clear S0 hb3
                  have S0 := S1
                  clear S1
                  refine HeadAt.take (i := 9) (.bool false) rfl (by kernel_rfl) (.inl ⟨rfl, fun w' z => ?_⟩) S0 ?_
                  · (simp [go_sem, hyb])
                  (try simp only [Act.put, List.getElem_toArray, List.getElem_cons_succ, List.getElem_cons_zero, List.setIfInBounds_toArray, List.set_cons_succ, List.set_cons_zero])
                  refine HeadAt.take (i := 10) (.bool false) rfl (by kernel_rfl) (.inl ⟨rfl, fun _ _ => by simp [go_sem]⟩) S0 ?_
                  (try simp only [Act.put, List.getElem_toArray, List.getElem_cons_succ, List.getElem_cons_zero, List.setIfInBounds_toArray, List.set_cons_succ, List.set_cons_zero])
                  refine HeadAt.take (i := 11) (.slice (some ⟨bF, oF, none⟩) nF cF) rfl (by kernel_rfl) (.inl ⟨rfl, fun _ _ => by simp [go_sem]⟩) S0 ?_
                  (try simp only [Act.put, List.getElem_toArray, List.getElem_cons_succ, List.getElem_cons_zero, List.setIfInBounds_toArray, List.set_cons_succ, List.set_cons_zero])
                  refine HeadAt.take (i := 12) (.int .i64 (j : Int)) rfl (by kernel_rfl) (.inl ⟨rfl, fun _ _ => by simp [go_sem]⟩) S0 ?_
                  (try simp only [Act.put, List.getElem_toArray, List.getElem_cons_succ, List.getElem_cons_zero, List.setIfInBounds_toArray, List.set_cons_succ, List.set_cons_zero])
                  refine HeadAt.take (i := 13) (.pointer (some ⟨bF, oF + j, none⟩)) rfl (by kernel_rfl) (.inl ⟨rfl, fun w' z => ?_⟩) S0 ?_
                  · (simp [go_sem, hjI, hj0])
                  (try simp only [Act.put, List.getElem_toArray, List.getElem_cons_succ, List.getElem_cons_zero, List.setIfInBounds_toArray, List.set_cons_succ, List.set_cons_zero])
                  refine HeadAt.take (i := 14) (.slice (some ⟨b2, off2, none⟩) nB c') rfl (by kernel_rfl) (.inl ⟨rfl, fun w' z => ?_⟩) S0 ?_
                  · (have z0 := (hcc.below z).1; simp [go_sem, z0])
                  (try simp only [Act.put, List.getElem_toArray, List.getElem_cons_succ, List.getElem_cons_zero, List.setIfInBounds_toArray, List.set_cons_succ, List.set_cons_zero])
                  refine HeadAt.take (i := 15) (.int .i64 (k : Int)) rfl (by kernel_rfl) (.inl ⟨rfl, fun _ _ => by simp [go_sem]⟩) S0 ?_
                  (try simp only [Act.put, List.getElem_toArray, List.getElem_cons_succ, List.getElem_cons_zero, List.setIfInBounds_toArray, List.set_cons_succ, List.set_cons_zero])
                  refine HeadAt.take (i := 16) (.pointer (some ⟨b2, off2 + k, none⟩)) rfl (by kernel_rfl) (.inl ⟨rfl, fun w' z => ?_⟩) S0 ?_
                  · (simp [go_sem, hkI, hk0])
                  (try simp only [Act.put, List.getElem_toArray, List.getElem_cons_succ, List.getElem_cons_zero, List.setIfInBounds_toArray, List.set_cons_succ, List.set_cons_zero])
                  refine HeadAt.take (i := 17) (.slice a2 m c2) rfl (by kernel_rfl) (.inl ⟨rfl, fun w' z => ?_⟩) S0 ?_
                  · (have z0 := (hcc2.below z).1; simp [go_sem, z0])
                  (try simp only [Act.put, List.getElem_toArray, List.getElem_cons_succ, List.getElem_cons_zero, List.setIfInBounds_toArray, List.set_cons_succ, List.set_cons_zero])
                  refine HeadAt.take (i := 18) (.int .i64 (t : Int)) rfl (by kernel_rfl) (.inl ⟨rfl, fun _ _ => by simp [go_sem]⟩) S0 ?_
                  (try simp only [Act.put, List.getElem_toArray, List.getElem_cons_succ, List.getElem_cons_zero, List.setIfInBounds_toArray, List.set_cons_succ, List.set_cons_zero])
                  refine HeadAt.one (i := 19) rfl (by kernel_rfl) ?_
                  generalize hK : Upto _ _ = K0
                  (try simp only [Act.put, List.getElem_toArray, List.getElem_cons_succ, List.getElem_cons_zero, List.setIfInBounds_toArray, List.set_cons_succ, List.set_cons_zero])
                  go_wp2_with fail
                  refine (hin _ S0).mono ?_
                  rintro e V2 ⟨rfl, rfl⟩
                  go_wp2_with fail
                  subst hK
                  refine ⟨S0, ?_⟩
                  (try simp only [Act.put, List.getElem_toArray, List.getElem_cons_succ, List.getElem_cons_zero, List.setIfInBounds_toArray, List.set_cons_succ, List.set_cons_zero])
                  refine HeadAt.take (i := 20) (.bool il) rfl (by kernel_rfl) (.inl ⟨rfl, fun _ _ => by simp [go_sem]⟩) S0 ?_
                  (try simp only [Act.put, List.getElem_toArray, List.getElem_cons_succ, List.getElem_cons_zero, List.setIfInBounds_toArray, List.set_cons_succ, List.set_cons_zero])
                  refine HeadAt.take (i := 21) (.bool il) rfl (by kernel_rfl) (.inl ⟨rfl, fun _ _ => by simp [go_sem]⟩) S0 ?_
                  (try simp only [Act.put, List.getElem_toArray, List.getElem_cons_succ, List.getElem_cons_zero, List.setIfInBounds_toArray, List.set_cons_succ, List.set_cons_zero])
                  refine HeadAt.done (by kernel_rfl) ?_
                  (try simp only [Act.put, List.drop_succ_cons, List.drop_zero, List.getElem_toArray, List.getElem_cons_succ, List.getElem_cons_zero])
                  go_wp2_with fail
                  refine NoPanic.normal ?_
                  have hb4 := hb2.trans (Below.mono S0 hb2.size)
                  clear S0
                  go_wp2
                  go_roundw
                  case rel => exact ⟨j + 1, by omega, by simp, by rw [HS1.out], hb4⟩
                  case measure => simp [intOf]; omega
            · obtain rfl : j = nF := by omega
              have hfin := hid (show (FF.take j).all (awP X be k t) = FF.all (awP X be k t) by rw [List.take_of_length_le (by rw [← HNF.out]; omega)])
              have hrs := alR_succ X FF be k t
              rw [← hfin.out] at hrs
              obtain ⟨fb, hfb⟩ : ∃ fb, fb = (FF.take j).all (awP X be k t) := ⟨_, rfl⟩
              rw [← hfb] at hrs ⊢
              obtain ⟨hq, hown⟩ := HX.out
              have hown1 := own_below2 hown hb2
              have hbr := hb1.trans (hb2.mono hb1.size)
              clear hfin hfb HX hown
              obtain ⟨Z, hZ⟩ : ∃ Z, Z = alK X FF be k ++ alR X FF be k t := ⟨_, rfl⟩
              rw [← hZ] at hq hown1
              cases fb with
              | false =>
                have hR9 := hid (show alK X FF be k ++ alR X FF be k (t + 1) = Z by rw [hrs, hZ]; simp)
                have HO := hid hown1
                clear hrs hown1 hZ
                go_wp2
                go_roundw
                case rel => exact ⟨t + 1, q, a, c, by omega, hid (by rw [hR9.out]; exact hq.out), by go_num, rfl, by rw [hR9.out]; exact HO.out, hbr⟩
                case measure => simp [intOf]; omega
              | true =>
                have hR9 := hid (show alK X FF be k ++ alR X FF be k (t + 1) = Z ++ [((k : Int), (t : Int))] by rw [hrs, hZ]; simp)
                have hbW := below_one (w := wr) (.cells #[.int .i64 (k : Int), .int .i64 (t : Int)] 55)
                have hcls := Cls.of_bx (Bx.new wr #[.int .i64 (k : Int), .int .i64 (t : Int)] 55)
                have hge := own_ge2 hown1
                have hbsz := hbr.size
                clear hrs hZ
                go_wp2_with (at_builtin; go_loud (refine wpList_appAt rfl (.tmp 65) (.tmp 69) 24 rfl W3.heap.size 55 i0 (.agg #[.int .i64 0, .int .i64 0]) 2 16 under24 hi0 iz0 iz1 iz2 rfl (by decide) (.slice a q c) q (pcells Z) rfl (own_below2 hown1 hbW) (some ⟨wr.heap.size, 0, none⟩) 1 1 [.int .i64 (k : Int), .int .i64 (t : Int)] rfl rfl hcls (by simp; exact ⟨rfl, rfl⟩) (by unfold maxLen; omega) (by omega) (by simp; omega) ?_)
                             intro v4 W4 hown4 hg4 hat
                             obtain ⟨a3, c3, rfl⟩ := own_slice2 hown4
                             have hb4 : Below W3.heap.size W3 W4 := (hbr.trans (hbW.mono hbr.size)).grown hg4 (by simp; omega) (fun k hk => hge k hk)
                             have HO := hid (And.intro hown4 hb4)
                             clear hown4 hat hg4 hcls hbW hown1)
                go_roundw
                case rel =>
                  refine ⟨t + 1, q + 1, a3, c3, by omega, hid (by rw [hR9.out, List.length_append, ← hq.out]; rfl), by go_num, rfl, ?_, HO.out.2⟩
                  rw [hR9.out, pcells_app]; exact HO.out.1
                case measure => simp [intOf]; omega
        · obtain rfl : t = nS := by omega
          have htI : ¬ (t : Int) < t := by omega
          have hR9 := hid (show alK X FF be k ++ alR X FF be k t = alK X FF be (k + 1) by rw [alK_succ, HNS.out])
          have HX := hid (And.intro HQ hown)
          clear HQ hown
          have c0 := xr.cell 0 rfl; have c1 := xr.cell 1 rfl; have c2 := xr.cell 2 rfl; have c3 := xr.cell 3 rfl; have c4 := xr.cell 4 rfl
          go_wp2
          go_roundw
          case rel => exact ⟨k + 1, q, a, c, by omega, hid (by rw [← hR9.out]; exact HX.out.1.out), by go_num, rfl, by rw [← hR9.out]; exact HX.out.2, hb1⟩
          case measure => simp [intOf]; omega
    · obtain rfl : k = nB := by omega
      have hkI : ¬ (k : Int) < k := by omega
      have hq := HQ.out
      rw [HRES.out] at hq hown
      obtain ⟨n, hn⟩ : ∃ n, n = L.length := ⟨_, rfl⟩
      obtain ⟨a4, c4', e4, l4⟩ := Prs.of_own (v := .slice a q c) (xs := L) (by rw [← hq]; exact hown) (by have := HLL.out; omega) (fun x hx => by have := HLR.out x hx; omega)
      have HF := hid (show Below w.heap.size w wr ∧ ∃ a c, (.slice a4 L.length c4' : Value) = .slice a L.length c ∧ Prs wr a L from ⟨hb.trans (hb1.mono hWs), _, _, rfl, l4⟩)
      rw [← hq] at e4
      simp only [Value.slice.injEq] at e4
      obtain ⟨rfl, _, rfl⟩ := e4
      rw [← hq] at HF
      clear hown l4 HQ
      have c0 := xr.cell 0 rfl; have c1 := xr.cell 1 rfl; have c2 := xr.cell 2 rfl; have c3 := xr.cell 3 rfl; have c4 := xr.cell 4 rfl
      go_wp2
      go_ret2
      obtain ⟨h1, a, c, e, h2⟩ := HF.out
      cases e
      first
        | exact ⟨h1, _, ⟨_, rfl⟩, h2⟩
        | exact ⟨h1, _, _, rfl, h2⟩
end Go.Proofs.Ytipdohpbilabiaa
/-! SwapsFits. -/
namespace Go.Proofs.Ytipdohpbilabiaa
set_option linter.unusedSimpArgs false
set_option linter.unusedVariables false
open Go Go.RowKit

set_option maxRecDepth 100000 in
set_option maxHeartbeats 4000000 in
theorem Fits_far (ab ast ae ak : Option Addr) (cb cs ce ck : Nat) (X : Sw) (ap : Option Addr) (cp : Nat) (P : List (List Int)) (w : World) (hX : SwIn w ab ast ae ak X) (hP : Lss w ap P) (h : farL X.bs = true ∨ farL X.er = true ∨ 40 < X.st.length ∨ 40 < X.ks.length ∨ farL P = true) : Calls Try.prog 3 #[.agg #[.slice ab X.bs.length cb, .slice ast X.st.length cs, .slice ae X.er.length ce, .slice ak X.ks.length ck, .int .i64 X.ch], .slice ap P.length cp] w fun e w' => e = .returned (.bool true) ∧ Below w.heap.size w w' := by
  obtain ⟨W, hWW, hb, _, x0⟩ := boxes1 w #[.slice ab X.bs.length cb, .slice ast X.st.length cs, .slice ae X.er.length ce, .slice ak X.ks.length ck, .int .i64 X.ch] 26
  have hf1 := fun V (h : Below w.heap.size w V) => farLists_any ab cb X.bs V (hX.b.below h (Nat.le_refl _))
  have hf2 := fun V (h : Below w.heap.size w V) => farLists_any ae ce X.er V (hX.e.below h (Nat.le_refl _))
  have hf3 := fun V (h : Below w.heap.size w V) => farLists_any ap cp P V (hP.below h (Nat.le_refl _))
  have hW := works_any
  have c0 := x0.cell 0 rfl; have c1 := x0.cell 1 rfl; have c2 := x0.cell 2 rfl; have c3 := x0.cell 3 rfl; have c4 := x0.cell 4 rfl
  cases g1 : farL X.bs
  · rw [g1] at hf1
    cases g2 : farL X.er
    · rw [g2] at hf2
      by_cases g3 : 40 < X.st.length
      · have g3I : (40 : Int) < (X.st.length : Int) := by omega
        clear hX hP h hf3 g3
        go_enter Try.func3, Try.ntmps3
        go_wp2_with fail
        refine (hf1 _ hb).mono ?_
        rintro e Vm ⟨rfl, rfl⟩
        go_wp2_with fail
        refine (hf2 _ hb).mono ?_
        rintro e Vm ⟨rfl, rfl⟩
        go_wp2_with fail
        refine (hW _).mono ?_
        rintro e Vw ⟨rfl, hb1⟩
        replace hb := hb.trans (hb1.mono hb.size)
        go_wp2
        go_ret
        exact ⟨rfl, hb⟩
      · have g3I : ¬ (40 : Int) < (X.st.length : Int) := by omega
        by_cases g4 : 40 < X.ks.length
        · have g4I : (40 : Int) < (X.ks.length : Int) := by omega
          clear hX hP h hf3 g3 g4
          go_enter Try.func3, Try.ntmps3
          go_wp2_with fail
          refine (hf1 _ hb).mono ?_
          rintro e Vm ⟨rfl, rfl⟩
          go_wp2_with fail
          refine (hf2 _ hb).mono ?_
          rintro e Vm ⟨rfl, rfl⟩
          go_wp2_with fail
          refine (hW _).mono ?_
          rintro e Vw ⟨rfl, hb1⟩
          replace hb := hb.trans (hb1.mono hb.size)
          go_wp2
          go_ret
          exact ⟨rfl, hb⟩
        · have g4I : ¬ (40 : Int) < (X.ks.length : Int) := by omega
          have g5 : farL P = true := by
            rcases h with h | h | h | h | h
            · rw [g1] at h; cases h
            · rw [g2] at h; cases h
            · exact absurd h g3
            · exact absurd h g4
            · exact h
          rw [g5] at hf3
          clear hX hP h g3 g4
          go_enter Try.func3, Try.ntmps3
          go_wp2_with fail
          refine (hf1 _ hb).mono ?_
          rintro e Vm ⟨rfl, rfl⟩
          go_wp2_with fail
          refine (hf2 _ hb).mono ?_
          rintro e Vm ⟨rfl, rfl⟩
          go_wp2_with fail
          refine (hf3 _ hb).mono ?_
          rintro e Vm ⟨rfl, rfl⟩
          go_wp2_with fail
          refine (hW _).mono ?_
          rintro e Vw ⟨rfl, hb1⟩
          replace hb := hb.trans (hb1.mono hb.size)
          go_wp2
          go_ret
          exact ⟨rfl, hb⟩
    · rw [g2] at hf2
      clear hX hP h hf3
      go_enter Try.func3, Try.ntmps3
      go_wp2_with fail
      refine (hf1 _ hb).mono ?_
      rintro e Vm ⟨rfl, rfl⟩
      go_wp2_with fail
      refine (hf2 _ hb).mono ?_
      rintro e Vm ⟨rfl, rfl⟩
      go_wp2_with fail
      refine (hW _).mono ?_
      rintro e Vw ⟨rfl, hb1⟩
      replace hb := hb.trans (hb1.mono hb.size)
      go_wp2
      go_ret
      exact ⟨rfl, hb⟩
  · rw [g1] at hf1
    clear hX hP h hf2 hf3
    go_enter Try.func3, Try.ntmps3
    go_wp2_with fail
    refine (hf1 _ hb).mono ?_
    rintro e Vm ⟨rfl, rfl⟩
    go_wp2_with fail
    refine (hW _).mono ?_
    rintro e Vw ⟨rfl, hb1⟩
    replace hb := hb.trans (hb1.mono hb.size)
    go_wp2
    go_ret
    exact ⟨rfl, hb⟩

theorem farL_le {LL : List (List Int)} (h : farL LL = false) : LL.length ≤ 40 ∧ ∀ l ∈ LL, l.length ≤ 40 := by
  unfold farL at h
  rw [Bool.or_eq_false_iff, decide_eq_false_iff_not, Bool.not_eq_false'] at h
  refine ⟨by omega, fun l hl => ?_⟩
  obtain ⟨i, hi, rfl⟩ := mem_getD [] hl
  have := all_at h.2 hi
  unfold farI at this
  exact of_decide_eq_true this

set_option maxRecDepth 100000 in
set_option maxHeartbeats 8000000 in
theorem swapsFits_near (ab ast ae ak : Option Addr) (cb cs ce ck : Nat) (X : Sw) (ap : Option Addr) (cp : Nat) (P : List (List Int)) (w : World) (hX : Swp w ab ast ae ak X) (hP : Lss w ap P) (g1 : farL X.bs = false) (g2 : farL X.er = false) (g3 : X.st.length ≤ 40) (g4 : X.ks.length ≤ 40) (g5 : farL P = false) : Calls Try.prog 3 #[.agg #[.slice ab X.bs.length cb, .slice ast X.st.length cs, .slice ae X.er.length ce, .slice ak X.ks.length ck, .int .i64 X.ch], .slice ap P.length cp] w fun e w' => e = .returned (.bool true) ∧ Below w.heap.size w w' := by
  obtain ⟨W, hWW, hb, _, x0⟩ := boxes1 w #[.slice ab X.bs.length cb, .slice ast X.st.length cs, .slice ae X.er.length ce, .slice ak X.ks.length ck, .int .i64 X.ch] 26
  have hgX := fun V (h : Below w.heap.size w V) => hX.below h (Nat.le_refl _)
  have hgP := fun V (h : Below w.heap.size w V) => hP.below h (Nat.le_refl _)
  have hf1 := fun V h => farLists_any ab cb X.bs V (hgX V h).1
  have hf2 := fun V h => farLists_any ae ce X.er V (hgX V h).2.2.1
  have hf3 := fun V h => farLists_any ap cp P V (hgP V h)
  rw [g1] at hf1; rw [g2] at hf2; rw [g5] at hf3
  have hW := works_any
  have g3I : ¬ (40 : Int) < (X.st.length : Int) := by omega
  have g4I : ¬ (40 : Int) < (X.ks.length : Int) := by omega
  obtain ⟨b1, b2⟩ := farL_le g1
  obtain ⟨e1, e2⟩ := farL_le g2
  obtain ⟨p1, p2⟩ := farL_le g5
  have hcl := fun V h => Clone_swp ab ast ae ak cb cs ce ck X V (hgX V h) (by omega) (fun l hl => by have := b2 l hl; omega) (by omega) (by omega) (fun l hl => by have := e2 l hl; omega) (by omega)
  have hcp := fun V h => CloneLists_any ap cp P V (hgP V h) (by omega) (fun l hl => by have := p2 l hl; omega)
  have hck := fun V h => Check_any ab ast ae ak cb cs ce ck X V (hgX V h)
  have hmx : P.length ≤ 9223372036854775807 := by omega
  have hnn : ∀ V, Ints V none [] := fun V => ⟨by simp, fun x hx => (nomatch hx), fun i hi => by simp at hi⟩
  have hni := fun V => SameInts_eq none none 0 0 [] V (hnn V) (hnn V)
  have c0 := x0.cell 0 rfl; have c1 := x0.cell 1 rfl; have c2 := x0.cell 2 rfl; have c3 := x0.cell 3 rfl; have c4 := x0.cell 4 rfl
  have HB := hid (And.intro b1 (And.intro b2 (And.intro e1 (And.intro e2 (And.intro p1 p2)))))
  clear g1 g2 g3 g4 g5 b1 b2 e1 e2 p1 p2 hnn hP hX
  go_enter Try.func3, Try.ntmps3
  go_wp2_with fail
  refine (hf1 _ hb).mono ?_
  rintro e Vm ⟨rfl, rfl⟩
  go_wp2_with fail
  refine (hf2 _ hb).mono ?_
  rintro e Vm ⟨rfl, rfl⟩
  go_wp2_with fail
  refine (hf3 _ hb).mono ?_
  rintro e Vm ⟨rfl, rfl⟩
  go_wp2_with fail
  refine (hcl _ hb).mono ?_
  rintro e Vn ⟨hb1, oab, oast, oae, oak, ocb, ocs, oce, ock, rfl, hO⟩
  replace hb := hb.trans (hb1.mono hb.size)
  replace x0 := x0.below hb1
  clear hb1 c0 c1 c2 c3 c4 hf1 hf2 hf3
  have c0 := x0.cell 0 rfl; have c1 := x0.cell 1 rfl; have c2 := x0.cell 2 rfl; have c3 := x0.cell 3 rfl; have c4 := x0.cell 4 rfl
  go_wp2_with fail
  refine (hcp _ hb).mono ?_
  rintro e Vn ⟨hb1, pa, pc, vs, rfl, hown, hrc⟩
  have hQ := hrc.lss hown hmx
  replace hb := hb.trans (hb1.mono hb.size)
  replace x0 := x0.below hb1
  replace hO := hO.below hb1 (Nat.le_refl _)
  clear hb1 c0 c1 c2 c3 c4 hcl hcp hown hrc
  have hb1 := below_one (w := Vn) (.cells #[.slice oab X.bs.length ocb, .slice oast X.st.length ocs, .slice oae X.er.length oce, .slice oak X.ks.length ock, .int .i64 X.ch] 26)
  have y0 := Bx.new Vn #[.slice oab X.bs.length ocb, .slice oast X.st.length ocs, .slice oae X.er.length oce, .slice oak X.ks.length ock, .int .i64 X.ch] 26
  replace hb := hb.trans (hb1.mono hb.size)
  replace x0 := x0.below hb1
  replace hO := hO.below hb1 (Nat.le_refl _)
  replace hQ := hQ.below hb1 (Nat.le_refl _)
  have HH := hid (And.intro hb (And.intro x0 (And.intro y0 (And.intro hO hQ))))
  clear hb x0 y0 hO hQ hb1
  go_upto_region 4 with fail
  obtain ⟨hb, x0, y0, hO, hQ⟩ := HH.out
  clear HH
  obtain ⟨g, hg⟩ : ∃ g, g = Vn.heap.size := ⟨_, rfl⟩
  rw [← hg] at y0 ⊢
  clear hg
  generalize Vn.alloc _ = Vn at *
  have hpc := fun (t : Ext Vn) => PCheck_any oab oast oae oak ocb ocs oce ock X t.w (hO.below t.below (Nat.le_refl _))
  have hrc := fun (t : Ext Vn) => hck t.w (hb.trans (t.below.mono hb.size))
  have u0 := x0.ext 0 rfl; have v0 := y0.ext 0 rfl; have u1 := x0.ext 1 rfl; have v1 := y0.ext 1 rfl; have u2 := x0.ext 2 rfl; have v2 := y0.ext 2 rfl; have u3 := x0.ext 3 rfl; have v3 := y0.ext 3 rfl; have u4 := x0.ext 4 rfl; have v4 := y0.ext 4 rfl; 
  generalize hcv : cod (vB X) = cv at *
  refine wp_region_ext_lit (by kernel_rfl) (by kernel_rfl) ?_
  repeat (quiet_step (first | (go_at_call 17; exact quiet_ext (hpc _)) | (go_at_call 18; exact quiet_ext (hrc _))))
  refine wpQuiet_nil ?_
  intro _ hw'
  obtain ⟨t, rfl⟩ := hw'
  have hb1 := t.below
  replace hb := hb.trans (hb1.mono hb.size)
  replace x0 := x0.below hb1
  replace y0 := y0.below hb1
  replace hO := hO.below hb1 (Nat.le_refl _)
  replace hQ := hQ.below hb1 (Nat.le_refl _)
  clear u0 u1 u2 u3 u4 v0 v1 v2 v3 v4 hpc hrc hck hb1 hcv
  generalize t.w = Vn at *
  have c0 := x0.cell 0 rfl; have c1 := x0.cell 1 rfl; have c2 := x0.cell 2 rfl; have c3 := x0.cell 3 rfl; have c4 := x0.cell 4 rfl; have d0 := y0.cell 0 rfl; have d1 := y0.cell 1 rfl; have d2 := y0.cell 2 rfl; have d3 := y0.cell 3 rfl; have d4 := y0.cell 4 rfl
  cases hv : vB X
  · skip
    have h19 := fun V hO hQ => Fits_bad oab oast oae oak ocb ocs oce ock X pa pc P V hO hQ 70 (by rw [hv]; rfl) (fun h => by rw [hv] at h; cases h)
    have h20 := fun V h => RFits_v ab ast ae ak cb cs ce ck X ap cp P V (hgX V h) (hgP V h) hv
    have h21 := fun V hO hQ => Earns_bad oab oast oae oak ocb ocs oce ock X pa pc P V hO hQ 70 (by rw [hv]; rfl) (fun h => by rw [hv] at h; cases h)
    have h22 := fun V h => REarns_v ab ast ae ak cb cs ce ck X ap cp P V (hgX V h) (hgP V h) hv
    have hsm := fun V h hO => same_eq oab oast oae oak ab ast ae ak ocb ocs oce ock cb cs ce ck X V hO (hgX V h)
    have hsl := fun V h hQ => SameLists_eq pa ap pc cp P V hQ (hgP V h)
    go_wp2_with fail
    refine (h19 _ hO hQ).mono ?_
    rintro e Vn ⟨rfl, hb1⟩
    replace hb := hb.trans (hb1.mono hb.size)
    replace x0 := x0.below hb1
    replace y0 := y0.below hb1
    replace hO := hO.below hb1 (Nat.le_refl _)
    replace hQ := hQ.below hb1 (Nat.le_refl _)
    clear hb1 c0 c1 c2 c3 c4 d0 d1 d2 d3 d4
    have c0 := x0.cell 0 rfl; have c1 := x0.cell 1 rfl; have c2 := x0.cell 2 rfl; have c3 := x0.cell 3 rfl; have c4 := x0.cell 4 rfl; have d0 := y0.cell 0 rfl; have d1 := y0.cell 1 rfl; have d2 := y0.cell 2 rfl; have d3 := y0.cell 3 rfl; have d4 := y0.cell 4 rfl
    go_wp2_with fail
    refine (h20 _ hb).mono ?_
    rintro e Vn ⟨rfl, hb1⟩
    replace hb := hb.trans (hb1.mono hb.size)
    replace x0 := x0.below hb1
    replace y0 := y0.below hb1
    replace hO := hO.below hb1 (Nat.le_refl _)
    replace hQ := hQ.below hb1 (Nat.le_refl _)
    clear hb1 c0 c1 c2 c3 c4 d0 d1 d2 d3 d4
    have c0 := x0.cell 0 rfl; have c1 := x0.cell 1 rfl; have c2 := x0.cell 2 rfl; have c3 := x0.cell 3 rfl; have c4 := x0.cell 4 rfl; have d0 := y0.cell 0 rfl; have d1 := y0.cell 1 rfl; have d2 := y0.cell 2 rfl; have d3 := y0.cell 3 rfl; have d4 := y0.cell 4 rfl
    go_wp2_with fail
    refine (h21 _ hO hQ).mono ?_
    rintro e Vn ⟨rfl, hb1⟩
    replace hb := hb.trans (hb1.mono hb.size)
    replace x0 := x0.below hb1
    replace y0 := y0.below hb1
    replace hO := hO.below hb1 (Nat.le_refl _)
    replace hQ := hQ.below hb1 (Nat.le_refl _)
    clear hb1 c0 c1 c2 c3 c4 d0 d1 d2 d3 d4
    have c0 := x0.cell 0 rfl; have c1 := x0.cell 1 rfl; have c2 := x0.cell 2 rfl; have c3 := x0.cell 3 rfl; have c4 := x0.cell 4 rfl; have d0 := y0.cell 0 rfl; have d1 := y0.cell 1 rfl; have d2 := y0.cell 2 rfl; have d3 := y0.cell 3 rfl; have d4 := y0.cell 4 rfl
    go_wp2_with fail
    refine (h22 _ hb).mono ?_
    rintro e Vn ⟨rfl, hb1⟩
    replace hb := hb.trans (hb1.mono hb.size)
    replace x0 := x0.below hb1
    replace y0 := y0.below hb1
    replace hO := hO.below hb1 (Nat.le_refl _)
    replace hQ := hQ.below hb1 (Nat.le_refl _)
    clear hb1 c0 c1 c2 c3 c4 d0 d1 d2 d3 d4
    have c0 := x0.cell 0 rfl; have c1 := x0.cell 1 rfl; have c2 := x0.cell 2 rfl; have c3 := x0.cell 3 rfl; have c4 := x0.cell 4 rfl; have d0 := y0.cell 0 rfl; have d1 := y0.cell 1 rfl; have d2 := y0.cell 2 rfl; have d3 := y0.cell 3 rfl; have d4 := y0.cell 4 rfl
    go_wp2_with fail
    refine (hni _).mono ?_
    rintro e Vn ⟨rfl, hb1⟩
    replace hb := hb.trans (hb1.mono hb.size)
    replace x0 := x0.below hb1
    replace y0 := y0.below hb1
    replace hO := hO.below hb1 (Nat.le_refl _)
    replace hQ := hQ.below hb1 (Nat.le_refl _)
    clear hb1 c0 c1 c2 c3 c4 d0 d1 d2 d3 d4
    have c0 := x0.cell 0 rfl; have c1 := x0.cell 1 rfl; have c2 := x0.cell 2 rfl; have c3 := x0.cell 3 rfl; have c4 := x0.cell 4 rfl; have d0 := y0.cell 0 rfl; have d1 := y0.cell 1 rfl; have d2 := y0.cell 2 rfl; have d3 := y0.cell 3 rfl; have d4 := y0.cell 4 rfl
    go_wp2_with fail
    refine (hsm _ hb hO).mono ?_
    rintro e Vn ⟨rfl, hb1⟩
    replace hb := hb.trans (hb1.mono hb.size)
    replace x0 := x0.below hb1
    replace y0 := y0.below hb1
    replace hO := hO.below hb1 (Nat.le_refl _)
    replace hQ := hQ.below hb1 (Nat.le_refl _)
    clear hb1 c0 c1 c2 c3 c4 d0 d1 d2 d3 d4
    have c0 := x0.cell 0 rfl; have c1 := x0.cell 1 rfl; have c2 := x0.cell 2 rfl; have c3 := x0.cell 3 rfl; have c4 := x0.cell 4 rfl; have d0 := y0.cell 0 rfl; have d1 := y0.cell 1 rfl; have d2 := y0.cell 2 rfl; have d3 := y0.cell 3 rfl; have d4 := y0.cell 4 rfl
    go_wp2_with fail
    refine (hsl _ hb hQ).mono ?_
    rintro e Vn ⟨rfl, hb1⟩
    replace hb := hb.trans (hb1.mono hb.size)
    replace x0 := x0.below hb1
    replace y0 := y0.below hb1
    replace hO := hO.below hb1 (Nat.le_refl _)
    replace hQ := hQ.below hb1 (Nat.le_refl _)
    clear hb1 c0 c1 c2 c3 c4 d0 d1 d2 d3 d4
    have c0 := x0.cell 0 rfl; have c1 := x0.cell 1 rfl; have c2 := x0.cell 2 rfl; have c3 := x0.cell 3 rfl; have c4 := x0.cell 4 rfl; have d0 := y0.cell 0 rfl; have d1 := y0.cell 1 rfl; have d2 := y0.cell 2 rfl; have d3 := y0.cell 3 rfl; have d4 := y0.cell 4 rfl
    go_wp2_with fail
    refine (hW _).mono ?_
    rintro e Vw ⟨rfl, hb1⟩
    replace hb := hb.trans (hb1.mono hb.size)
    go_wp2
    go_ret
    exact ⟨rfl, hb⟩
  · cases hpl : plB X P
    · skip
      have h19 := fun V hO hQ => Fits_bad oab oast oae oak ocb ocs oce ock X pa pc P V hO hQ 1 (by rw [hv]; rfl) (fun _ => hpl)
      have h20 := fun V h => RFits_p ab ast ae ak cb cs ce ck X ap cp P V (hgX V h) (hgP V h) hv hpl
      have h21 := fun V hO hQ => Earns_bad oab oast oae oak ocb ocs oce ock X pa pc P V hO hQ 1 (by rw [hv]; rfl) (fun _ => hpl)
      have h22 := fun V h => REarns_p ab ast ae ak cb cs ce ck X ap cp P V (hgX V h) (hgP V h) hv hpl
      have hsm := fun V h hO => same_eq oab oast oae oak ab ast ae ak ocb ocs oce ock cb cs ce ck X V hO (hgX V h)
      have hsl := fun V h hQ => SameLists_eq pa ap pc cp P V hQ (hgP V h)
      go_wp2_with fail
      refine (h19 _ hO hQ).mono ?_
      rintro e Vn ⟨rfl, hb1⟩
      replace hb := hb.trans (hb1.mono hb.size)
      replace x0 := x0.below hb1
      replace y0 := y0.below hb1
      replace hO := hO.below hb1 (Nat.le_refl _)
      replace hQ := hQ.below hb1 (Nat.le_refl _)
      clear hb1 c0 c1 c2 c3 c4 d0 d1 d2 d3 d4
      have c0 := x0.cell 0 rfl; have c1 := x0.cell 1 rfl; have c2 := x0.cell 2 rfl; have c3 := x0.cell 3 rfl; have c4 := x0.cell 4 rfl; have d0 := y0.cell 0 rfl; have d1 := y0.cell 1 rfl; have d2 := y0.cell 2 rfl; have d3 := y0.cell 3 rfl; have d4 := y0.cell 4 rfl
      go_wp2_with fail
      refine (h20 _ hb).mono ?_
      rintro e Vn ⟨rfl, hb1⟩
      replace hb := hb.trans (hb1.mono hb.size)
      replace x0 := x0.below hb1
      replace y0 := y0.below hb1
      replace hO := hO.below hb1 (Nat.le_refl _)
      replace hQ := hQ.below hb1 (Nat.le_refl _)
      clear hb1 c0 c1 c2 c3 c4 d0 d1 d2 d3 d4
      have c0 := x0.cell 0 rfl; have c1 := x0.cell 1 rfl; have c2 := x0.cell 2 rfl; have c3 := x0.cell 3 rfl; have c4 := x0.cell 4 rfl; have d0 := y0.cell 0 rfl; have d1 := y0.cell 1 rfl; have d2 := y0.cell 2 rfl; have d3 := y0.cell 3 rfl; have d4 := y0.cell 4 rfl
      go_wp2_with fail
      refine (h21 _ hO hQ).mono ?_
      rintro e Vn ⟨rfl, hb1⟩
      replace hb := hb.trans (hb1.mono hb.size)
      replace x0 := x0.below hb1
      replace y0 := y0.below hb1
      replace hO := hO.below hb1 (Nat.le_refl _)
      replace hQ := hQ.below hb1 (Nat.le_refl _)
      clear hb1 c0 c1 c2 c3 c4 d0 d1 d2 d3 d4
      have c0 := x0.cell 0 rfl; have c1 := x0.cell 1 rfl; have c2 := x0.cell 2 rfl; have c3 := x0.cell 3 rfl; have c4 := x0.cell 4 rfl; have d0 := y0.cell 0 rfl; have d1 := y0.cell 1 rfl; have d2 := y0.cell 2 rfl; have d3 := y0.cell 3 rfl; have d4 := y0.cell 4 rfl
      go_wp2_with fail
      refine (h22 _ hb).mono ?_
      rintro e Vn ⟨rfl, hb1⟩
      replace hb := hb.trans (hb1.mono hb.size)
      replace x0 := x0.below hb1
      replace y0 := y0.below hb1
      replace hO := hO.below hb1 (Nat.le_refl _)
      replace hQ := hQ.below hb1 (Nat.le_refl _)
      clear hb1 c0 c1 c2 c3 c4 d0 d1 d2 d3 d4
      have c0 := x0.cell 0 rfl; have c1 := x0.cell 1 rfl; have c2 := x0.cell 2 rfl; have c3 := x0.cell 3 rfl; have c4 := x0.cell 4 rfl; have d0 := y0.cell 0 rfl; have d1 := y0.cell 1 rfl; have d2 := y0.cell 2 rfl; have d3 := y0.cell 3 rfl; have d4 := y0.cell 4 rfl
      go_wp2_with fail
      refine (hni _).mono ?_
      rintro e Vn ⟨rfl, hb1⟩
      replace hb := hb.trans (hb1.mono hb.size)
      replace x0 := x0.below hb1
      replace y0 := y0.below hb1
      replace hO := hO.below hb1 (Nat.le_refl _)
      replace hQ := hQ.below hb1 (Nat.le_refl _)
      clear hb1 c0 c1 c2 c3 c4 d0 d1 d2 d3 d4
      have c0 := x0.cell 0 rfl; have c1 := x0.cell 1 rfl; have c2 := x0.cell 2 rfl; have c3 := x0.cell 3 rfl; have c4 := x0.cell 4 rfl; have d0 := y0.cell 0 rfl; have d1 := y0.cell 1 rfl; have d2 := y0.cell 2 rfl; have d3 := y0.cell 3 rfl; have d4 := y0.cell 4 rfl
      go_wp2_with fail
      refine (hsm _ hb hO).mono ?_
      rintro e Vn ⟨rfl, hb1⟩
      replace hb := hb.trans (hb1.mono hb.size)
      replace x0 := x0.below hb1
      replace y0 := y0.below hb1
      replace hO := hO.below hb1 (Nat.le_refl _)
      replace hQ := hQ.below hb1 (Nat.le_refl _)
      clear hb1 c0 c1 c2 c3 c4 d0 d1 d2 d3 d4
      have c0 := x0.cell 0 rfl; have c1 := x0.cell 1 rfl; have c2 := x0.cell 2 rfl; have c3 := x0.cell 3 rfl; have c4 := x0.cell 4 rfl; have d0 := y0.cell 0 rfl; have d1 := y0.cell 1 rfl; have d2 := y0.cell 2 rfl; have d3 := y0.cell 3 rfl; have d4 := y0.cell 4 rfl
      go_wp2_with fail
      refine (hsl _ hb hQ).mono ?_
      rintro e Vn ⟨rfl, hb1⟩
      replace hb := hb.trans (hb1.mono hb.size)
      replace x0 := x0.below hb1
      replace y0 := y0.below hb1
      replace hO := hO.below hb1 (Nat.le_refl _)
      replace hQ := hQ.below hb1 (Nat.le_refl _)
      clear hb1 c0 c1 c2 c3 c4 d0 d1 d2 d3 d4
      have c0 := x0.cell 0 rfl; have c1 := x0.cell 1 rfl; have c2 := x0.cell 2 rfl; have c3 := x0.cell 3 rfl; have c4 := x0.cell 4 rfl; have d0 := y0.cell 0 rfl; have d1 := y0.cell 1 rfl; have d2 := y0.cell 2 rfl; have d3 := y0.cell 3 rfl; have d4 := y0.cell 4 rfl
      go_wp2_with fail
      refine (hW _).mono ?_
      rintro e Vw ⟨rfl, hb1⟩
      replace hb := hb.trans (hb1.mono hb.size)
      go_wp2
      go_ret
      exact ⟨rfl, hb⟩
    · skip
      have h19 := fun V hO hQ => Fits_ok oab oast oae oak ocb ocs oce ock X pa pc P V hO hQ hv hpl
      have h20 := fun V h => RFits_ok ab ast ae ak cb cs ce ck X ap cp P V (hgX V h) (hgP V h) hv hpl
      have h21 := fun V hO hQ => Earns_ok oab oast oae oak ocb ocs oce ock X pa pc P V hO hQ hv hpl
      have h22 := fun V h => REarns_ok ab ast ae ak cb cs ce ck X ap cp P V (hgX V h) (hgP V h) hv hpl
      have hell : (earL X.vz (planM P) X.bs.length).length = X.bs.length := earL_len _ _ _
      generalize earn X.vz (planM P) = en at *
      generalize earL X.vz (planM P) X.bs.length = el at *
      generalize fitA X.vz (planM P) = fa at *
      have hsi := fun a b c d V h1 h2 => SameInts_eq a b c d el V h1 h2
      rw [hell] at hsi
      have hsm := fun V h hO => same_eq oab oast oae oak ab ast ae ak ocb ocs oce ock cb cs ce ck X V hO (hgX V h)
      have hsl := fun V h hQ => SameLists_eq pa ap pc cp P V hQ (hgP V h)
      go_wp2_with fail
      refine (h19 _ hO hQ).mono ?_
      rintro e Vn ⟨rfl, hb1⟩
      replace hb := hb.trans (hb1.mono hb.size)
      replace x0 := x0.below hb1
      replace y0 := y0.below hb1
      replace hO := hO.below hb1 (Nat.le_refl _)
      replace hQ := hQ.below hb1 (Nat.le_refl _)
      clear hb1 c0 c1 c2 c3 c4 d0 d1 d2 d3 d4
      have c0 := x0.cell 0 rfl; have c1 := x0.cell 1 rfl; have c2 := x0.cell 2 rfl; have c3 := x0.cell 3 rfl; have c4 := x0.cell 4 rfl; have d0 := y0.cell 0 rfl; have d1 := y0.cell 1 rfl; have d2 := y0.cell 2 rfl; have d3 := y0.cell 3 rfl; have d4 := y0.cell 4 rfl
      go_wp2_with fail
      refine (h20 _ hb).mono ?_
      rintro e Vn ⟨rfl, hb1⟩
      replace hb := hb.trans (hb1.mono hb.size)
      replace x0 := x0.below hb1
      replace y0 := y0.below hb1
      replace hO := hO.below hb1 (Nat.le_refl _)
      replace hQ := hQ.below hb1 (Nat.le_refl _)
      clear hb1 c0 c1 c2 c3 c4 d0 d1 d2 d3 d4
      have c0 := x0.cell 0 rfl; have c1 := x0.cell 1 rfl; have c2 := x0.cell 2 rfl; have c3 := x0.cell 3 rfl; have c4 := x0.cell 4 rfl; have d0 := y0.cell 0 rfl; have d1 := y0.cell 1 rfl; have d2 := y0.cell 2 rfl; have d3 := y0.cell 3 rfl; have d4 := y0.cell 4 rfl
      go_wp2_with fail
      refine (h21 _ hO hQ).mono ?_
      rintro e Vn ⟨hb1, a3, rfl, hI1⟩
      replace hb := hb.trans (hb1.mono hb.size)
      replace x0 := x0.below hb1
      replace y0 := y0.below hb1
      replace hO := hO.below hb1 (Nat.le_refl _)
      replace hQ := hQ.below hb1 (Nat.le_refl _)
      clear hb1 c0 c1 c2 c3 c4 d0 d1 d2 d3 d4
      have c0 := x0.cell 0 rfl; have c1 := x0.cell 1 rfl; have c2 := x0.cell 2 rfl; have c3 := x0.cell 3 rfl; have c4 := x0.cell 4 rfl; have d0 := y0.cell 0 rfl; have d1 := y0.cell 1 rfl; have d2 := y0.cell 2 rfl; have d3 := y0.cell 3 rfl; have d4 := y0.cell 4 rfl
      go_wp2_with fail
      refine (h22 _ hb).mono ?_
      rintro e Vn ⟨hb1, a4, c4', rfl, hI2⟩
      replace hb := hb.trans (hb1.mono hb.size)
      replace x0 := x0.below hb1
      replace y0 := y0.below hb1
      replace hO := hO.below hb1 (Nat.le_refl _)
      replace hQ := hQ.below hb1 (Nat.le_refl _)
      replace hI1 := hI1.below hb1 (Nat.le_refl _)
      clear hb1 c0 c1 c2 c3 c4 d0 d1 d2 d3 d4
      have c0 := x0.cell 0 rfl; have c1 := x0.cell 1 rfl; have c2 := x0.cell 2 rfl; have c3 := x0.cell 3 rfl; have c4 := x0.cell 4 rfl; have d0 := y0.cell 0 rfl; have d1 := y0.cell 1 rfl; have d2 := y0.cell 2 rfl; have d3 := y0.cell 3 rfl; have d4 := y0.cell 4 rfl
      go_wp2_with fail
      refine (hsi _ _ _ _ _ hI1 hI2).mono ?_
      rintro e Vn ⟨rfl, hb1⟩
      replace hb := hb.trans (hb1.mono hb.size)
      replace x0 := x0.below hb1
      replace y0 := y0.below hb1
      replace hO := hO.below hb1 (Nat.le_refl _)
      replace hQ := hQ.below hb1 (Nat.le_refl _)
      clear hb1 c0 c1 c2 c3 c4 d0 d1 d2 d3 d4
      have c0 := x0.cell 0 rfl; have c1 := x0.cell 1 rfl; have c2 := x0.cell 2 rfl; have c3 := x0.cell 3 rfl; have c4 := x0.cell 4 rfl; have d0 := y0.cell 0 rfl; have d1 := y0.cell 1 rfl; have d2 := y0.cell 2 rfl; have d3 := y0.cell 3 rfl; have d4 := y0.cell 4 rfl
      clear hI1 hI2
      go_wp2_with fail
      refine (hsm _ hb hO).mono ?_
      rintro e Vn ⟨rfl, hb1⟩
      replace hb := hb.trans (hb1.mono hb.size)
      replace x0 := x0.below hb1
      replace y0 := y0.below hb1
      replace hO := hO.below hb1 (Nat.le_refl _)
      replace hQ := hQ.below hb1 (Nat.le_refl _)
      clear hb1 c0 c1 c2 c3 c4 d0 d1 d2 d3 d4
      have c0 := x0.cell 0 rfl; have c1 := x0.cell 1 rfl; have c2 := x0.cell 2 rfl; have c3 := x0.cell 3 rfl; have c4 := x0.cell 4 rfl; have d0 := y0.cell 0 rfl; have d1 := y0.cell 1 rfl; have d2 := y0.cell 2 rfl; have d3 := y0.cell 3 rfl; have d4 := y0.cell 4 rfl
      go_wp2_with fail
      refine (hsl _ hb hQ).mono ?_
      rintro e Vn ⟨rfl, hb1⟩
      replace hb := hb.trans (hb1.mono hb.size)
      replace x0 := x0.below hb1
      replace y0 := y0.below hb1
      replace hO := hO.below hb1 (Nat.le_refl _)
      replace hQ := hQ.below hb1 (Nat.le_refl _)
      clear hb1 c0 c1 c2 c3 c4 d0 d1 d2 d3 d4
      have c0 := x0.cell 0 rfl; have c1 := x0.cell 1 rfl; have c2 := x0.cell 2 rfl; have c3 := x0.cell 3 rfl; have c4 := x0.cell 4 rfl; have d0 := y0.cell 0 rfl; have d1 := y0.cell 1 rfl; have d2 := y0.cell 2 rfl; have d3 := y0.cell 3 rfl; have d4 := y0.cell 4 rfl
      go_wp2_with fail
      refine (hW _).mono ?_
      rintro e Vw ⟨rfl, hb1⟩
      replace hb := hb.trans (hb1.mono hb.size)
      go_wp2
      go_ret
      exact ⟨rfl, hb⟩

theorem swapsFits_row (ab ast ae ak : Option Addr) (cb cs ce ck : Nat) (X : Sw) (ap : Option Addr) (cp : Nat) (P : List (List Int)) (w : World) (hX : SwIn w ab ast ae ak X) (hP : Lss w ap P) : Calls Try.prog 3 #[.agg #[.slice ab X.bs.length cb, .slice ast X.st.length cs, .slice ae X.er.length ce, .slice ak X.ks.length ck, .int .i64 X.ch], .slice ap P.length cp] w fun e w' => e = .returned (.bool true) ∧ Below w.heap.size w w' := by
  by_cases h : farL X.bs = true ∨ farL X.er = true ∨ 40 < X.st.length ∨ 40 < X.ks.length ∨ farL P = true
  · exact Fits_far ab ast ae ak cb cs ce ck X ap cp P w hX hP h
  · simp only [not_or, Bool.not_eq_true] at h
    exact swapsFits_near ab ast ae ak cb cs ce ck X ap cp P w (hX.swp (by omega)) hP h.1 h.2.1 (by omega) (by omega) h.2.2.2.2
end Go.Proofs.Ytipdohpbilabiaa
/-! SwapsBest: its walk. -/
namespace Go.Proofs.Ytipdohpbilabiaa
set_option linter.unusedSimpArgs false
set_option linter.unusedVariables false
open Go Go.RowKit

set_option maxRecDepth 100000 in
set_option maxHeartbeats 2000000 in
theorem Plan_bad (ab ast ae ak : Option Addr) (cb cs ce ck : Nat) (X : Sw) (w : World) (hX : Swp w ab ast ae ak X) (hv : vB X = false) : Calls Try.prog 33 #[.agg #[.slice ab X.bs.length cb, .slice ast X.st.length cs, .slice ae X.er.length ce, .slice ak X.ks.length ck, .int .i64 X.ch]] w fun e w' => e = .returned (.tuple #[.slice none 0 0, .int .i64 70]) ∧ Below w.heap.size w w' := by
  obtain ⟨W, hW, hbw, _, x0⟩ := boxes1 w #[.slice ab X.bs.length cb, .slice ast X.st.length cs, .slice ae X.er.length ce, .slice ak X.ks.length ck, .int .i64 X.ch] 26
  have hvo := visitOf_bad ab ast ae ak cb cs ce ck X true W (hX.below hbw (Nat.le_refl _)) 70 (by rw [hv]; rfl) (fun h => by rw [hv] at h; cases h)
  clear hX
  have c0 := x0.cell 0 rfl; have c1 := x0.cell 1 rfl; have c2 := x0.cell 2 rfl; have c3 := x0.cell 3 rfl; have c4 := x0.cell 4 rfl
  go_enter Try.func33, Try.ntmps33
  go_wp2_with fail
  refine hvo.mono ?_
  rintro e W1 ⟨rfl, hb1⟩
  replace hbw := hbw.trans (hb1.mono hbw.size)
  have hb2 := hbw.trans ((below_one (w := W1) (.cells #[.slice none 0 0, .slice none 0 0, .slice none 0 0, .slice none 0 0, .int .i64 0, .int .u8 0, .int .u8 0, .int .u8 0, .int .u8 0, .int .u8 0, .int .u8 0] 72)).mono hbw.size)
  clear hW c0 c1 c2 c3 c4 hb1 hvo x0
  go_wp2
  go_ret2
  exact ⟨rfl, hb2⟩
theorem far_sizes {X : Sw} (h : farB X = false) : X.bs.length ≤ 1000 ∧ (∀ l ∈ X.bs, l.length ≤ 1000) ∧ X.st.length ≤ 1000 ∧ X.er.length ≤ 1000 ∧ (∀ l ∈ X.er, l.length ≤ 1000) ∧ X.ks.length ≤ 1000 := by
  unfold farB at h
  simp only [Bool.or_eq_false_iff, decide_eq_false_iff_not] at h
  obtain ⟨⟨⟨⟨h1, h2⟩, h3⟩, h4⟩, _⟩ := h
  obtain ⟨b1, b2⟩ := farL_le h1
  obtain ⟨e1, e2⟩ := farL_le h2
  exact ⟨by omega, fun l hl => by have := b2 l hl; omega, by omega, by omega, fun l hl => by have := e2 l hl; omega, by omega⟩
theorem farL_nil : farL [] = false := by decide
/-- When there is too much of something. -/
theorem BestN_far (ab ast ae ak : Option Addr) (cb cs ce ck : Nat) (X : Sw) (w : World) (hfa : ∀ V, Below w.heap.size w V → Calls Try.prog 26 #[.agg #[.slice ab X.bs.length cb, .slice ast X.st.length cs, .slice ae X.er.length ce, .slice ak X.ks.length ck, .int .i64 X.ch]] V fun e w' => e = .returned (.bool true) ∧ Below V.heap.size V w') : Calls Try.prog 4 #[.agg #[.slice ab X.bs.length cb, .slice ast X.st.length cs, .slice ae X.er.length ce, .slice ak X.ks.length ck, .int .i64 X.ch]] w fun e w' => e = .returned (.bool true) ∧ Below w.heap.size w w' := by
  obtain ⟨W, hWW, hb, _, x0⟩ := boxes1 w #[.slice ab X.bs.length cb, .slice ast X.st.length cs, .slice ae X.er.length ce, .slice ak X.ks.length ck, .int .i64 X.ch] 26
  have hrd := hfa
  have hW := works_any
  have c0 := x0.cell 0 rfl; have c1 := x0.cell 1 rfl; have c2 := x0.cell 2 rfl; have c3 := x0.cell 3 rfl; have c4 := x0.cell 4 rfl
  clear hfa
  go_enter Try.func4, Try.ntmps4
  go_wp2_with fail
  refine (hrd _ hb).mono ?_
  rintro e V1 ⟨rfl, hb1⟩
  replace hb := hb.trans (hb1.mono hb.size)
  replace x0 := x0.below hb1
  clear c0 c1 c2 c3 c4 hb1 hrd
  have c0 := x0.cell 0 rfl; have c1 := x0.cell 1 rfl; have c2 := x0.cell 2 rfl; have c3 := x0.cell 3 rfl; have c4 := x0.cell 4 rfl
  go_wp2_with fail
  refine (hW _).mono ?_
  rintro e Vw ⟨rfl, hb1⟩
  replace hb := hb.trans (hb1.mono hb.size)
  go_wp2
  go_ret
  exact ⟨rfl, hb⟩

set_option maxRecDepth 100000 in
set_option maxHeartbeats 8000000 in
theorem swapsBest_n (ab ast ae ak : Option Addr) (cb cs ce ck : Nat) (X : Sw) (w : World) (hX : Swp w ab ast ae ak X) (hf : farB X = false) (hv : vB X = false) : Calls Try.prog 4 #[.agg #[.slice ab X.bs.length cb, .slice ast X.st.length cs, .slice ae X.er.length ce, .slice ak X.ks.length ck, .int .i64 X.ch]] w fun e w' => e = .returned (.bool true) ∧ Below w.heap.size w w' := by
  have hwk := works_any
  have hfa := fun V (h : Swp V ab ast ae ak X) => Far_any ab ast ae ak cb cs ce ck X V h
  rw [hf] at hfa
  obtain ⟨z1, z2, z3, z4, z5, z6⟩ := far_sizes hf
  have hcl := fun V (h : Swp V ab ast ae ak X) => Clone_swp ab ast ae ak cb cs ce ck X V h z1 z2 z3 z4 z5 z6
  have hsm := fun (a1 a2 a3 a4 : Option Addr) (c1 c2 c3 c4 : Nat) (b1 b2 b3 b4 : Option Addr) (d1 d2 d3 d4 : Nat) V (h : Swp V a1 a2 a3 a4 X) (h' : Swp V b1 b2 b3 b4 X) => same_eq a1 a2 a3 a4 b1 b2 b3 b4 c1 c2 c3 c4 d1 d2 d3 d4 X V h h'
  obtain ⟨W, hWW, hb, _, x0⟩ := boxes1 w #[.slice ab X.bs.length cb, .slice ast X.st.length cs, .slice ae X.er.length ce, .slice ak X.ks.length ck, .int .i64 X.ch] 26
  replace hX := hX.below hb (Nat.le_refl _)
  have hp0 : ∀ V, Prs V none [] := fun V => ⟨by simp, fun x hx => by simp at hx, fun i hi => by simp at hi⟩
  have hl0 : ∀ V, Lss V none [] := fun V => ⟨by simp, fun i ks hi => by simp at hi⟩
  have h27 := fun (ab ast ae ak : Option Addr) (cb cs ce ck : Nat) V (h : Swp V ab ast ae ak X) => Best_bad ab ast ae ak cb cs ce ck X V h hv
  have h28 := fun (ab ast ae ak : Option Addr) (cb cs ce ck : Nat) V (h : Swp V ab ast ae ak X) => RBest_bad ab ast ae ak cb cs ce ck X V h hv
  have h31 := fun (ab ast ae ak : Option Addr) (cb cs ce ck : Nat) V (h : Swp V ab ast ae ak X) => Fair_bad ab ast ae ak cb cs ce ck X V h hv
  have h32 := fun (ab ast ae ak : Option Addr) (cb cs ce ck : Nat) V (h : Swp V ab ast ae ak X) => RFair_bad ab ast ae ak cb cs ce ck X V h hv
  have h29 : ∀ (ab ast ae ak : Option Addr) (cb cs ce ck : Nat) V, Swp V ab ast ae ak X → Calls Try.prog 29 #[.agg #[.slice ab X.bs.length cb, .slice ast X.st.length cs, .slice ae X.er.length ce, .slice ak X.ks.length ck, .int .i64 X.ch]] V fun e w' => Below V.heap.size V w' ∧ ∃ (a : Option Addr) (c : Nat), e = .returned (.tuple #[.slice a 0 c, .int .i64 70]) ∧ Prs w' a [] := fun ab ast ae ak cb cs ce ck V h => (Always_bad ab ast ae ak cb cs ce ck X V h hv).mono fun e w' k => ⟨k.2, none, 0, k.1, hp0 _⟩
  have h30 : ∀ (ab ast ae ak : Option Addr) (cb cs ce ck : Nat) V, Swp V ab ast ae ak X → Calls Try.prog 30 #[.agg #[.slice ab X.bs.length cb, .slice ast X.st.length cs, .slice ae X.er.length ce, .slice ak X.ks.length ck, .int .i64 X.ch]] V fun e w' => Below V.heap.size V w' ∧ ∃ (a : Option Addr) (c : Nat), e = .returned (.tuple #[.slice a 0 c, .int .i64 70]) ∧ Prs w' a [] := fun ab ast ae ak cb cs ce ck V h => (RAlways_bad ab ast ae ak cb cs ce ck X V h hv).mono fun e w' k => ⟨k.2, none, 0, k.1, hp0 _⟩
  have h33 : ∀ (ab ast ae ak : Option Addr) (cb cs ce ck : Nat) V, Swp V ab ast ae ak X → Calls Try.prog 33 #[.agg #[.slice ab X.bs.length cb, .slice ast X.st.length cs, .slice ae X.er.length ce, .slice ak X.ks.length ck, .int .i64 X.ch]] V fun e w' => Below V.heap.size V w' ∧ ∃ (a : Option Addr) (c : Nat), e = .returned (.tuple #[.slice a 0 c, .int .i64 70]) ∧ Lss w' a [] := fun ab ast ae ak cb cs ce ck V h => (Plan_bad ab ast ae ak cb cs ce ck X V h hv).mono fun e w' k => ⟨k.2, none, 0, k.1, hl0 _⟩
  have hsk := fun a b c d V (h : Prs V a []) (h' : Prs V b []) => SameKeeps_eq a b c d [] V h h'
  have hfl := fun a c V (h : Lss V a []) => farLists_any a c [] V h
  rw [farL_nil] at hfl
  clear hf hv z1 z2 z3 z4 z5 z6 hp0 hl0
  have c0 := x0.cell 0 rfl; have c1 := x0.cell 1 rfl; have c2 := x0.cell 2 rfl; have c3 := x0.cell 3 rfl; have c4 := x0.cell 4 rfl
  go_enter Try.func4, Try.ntmps4
  go_wp2_with fail
  refine (hfa _ hX).mono ?_
  rintro e Vc1 ⟨rfl, hb1⟩
  clear c0 c1 c2 c3 c4
  replace x0 := x0.below hb1
  replace hX := hX.below hb1 (Nat.le_refl _)
  replace hb := hb.trans (hb1.mono hb.size)
  clear hb1 hfa
  have c0 := x0.cell 0 rfl; have c1 := x0.cell 1 rfl; have c2 := x0.cell 2 rfl; have c3 := x0.cell 3 rfl; have c4 := x0.cell 4 rfl
  go_wp2_with fail
  refine (hcl _ hX).mono ?_
  rintro e Vc2 ⟨hb1, oab, oast, oae, oak, ocb, ocs, oce, ock, rfl, hO⟩
  clear c0 c1 c2 c3 c4
  replace x0 := x0.below hb1
  replace hX := hX.below hb1 (Nat.le_refl _)
  replace hb := hb.trans (hb1.mono hb.size)
  clear hb1 hcl
  have c0 := x0.cell 0 rfl; have c1 := x0.cell 1 rfl; have c2 := x0.cell 2 rfl; have c3 := x0.cell 3 rfl; have c4 := x0.cell 4 rfl
  have hba := below_one (w := Vc2) (.cells #[.slice oab X.bs.length ocb, .slice oast X.st.length ocs, .slice oae X.er.length oce, .slice oak X.ks.length ock, .int .i64 X.ch] 26)
  have HXa := hid (And.intro (x0.below hba) (And.intro (hX.below hba (Nat.le_refl _)) (And.intro (hO.below hba (Nat.le_refl _)) (And.intro (hb.trans (hba.mono hb.size)) (Bx.new Vc2 #[.slice oab X.bs.length ocb, .slice oast X.st.length ocs, .slice oae X.er.length oce, .slice oak X.ks.length ock, .int .i64 X.ch] 26)))))
  clear hba hb x0 hX hO
  go_upto_region 4 with fail
  clear c0 c1 c2 c3 c4
  obtain ⟨x0, hX, hO, hb, y0⟩ := HXa.out
  clear HXa
  generalize Vc2.heap.size = sa_y0 at *
  generalize World.alloc _ _ = Va_y0 at *
  have c0 := x0.cell 0 rfl; have c1 := x0.cell 1 rfl; have c2 := x0.cell 2 rfl; have c3 := x0.cell 3 rfl; have c4 := x0.cell 4 rfl
  have d0 := y0.cell 0 rfl; have d1 := y0.cell 1 rfl; have d2 := y0.cell 2 rfl; have d3 := y0.cell 3 rfl; have d4 := y0.cell 4 rfl
  go_wp2_with fail
  refine (h27 _ _ _ _ _ _ _ _ _ hO).mono ?_
  rintro e Vc4 ⟨rfl, hb1⟩
  clear c0 c1 c2 c3 c4
  clear d0 d1 d2 d3 d4
  replace x0 := x0.below hb1
  replace y0 := y0.below hb1
  replace hX := hX.below hb1 (Nat.le_refl _)
  replace hO := hO.below hb1 (Nat.le_refl _)
  replace hb := hb.trans (hb1.mono hb.size)
  clear hb1 h27
  have c0 := x0.cell 0 rfl; have c1 := x0.cell 1 rfl; have c2 := x0.cell 2 rfl; have c3 := x0.cell 3 rfl; have c4 := x0.cell 4 rfl
  have d0 := y0.cell 0 rfl; have d1 := y0.cell 1 rfl; have d2 := y0.cell 2 rfl; have d3 := y0.cell 3 rfl; have d4 := y0.cell 4 rfl
  go_wp2_with fail
  refine (h28 _ _ _ _ _ _ _ _ _ hX).mono ?_
  rintro e Vc5 ⟨rfl, hb1⟩
  clear c0 c1 c2 c3 c4
  clear d0 d1 d2 d3 d4
  replace x0 := x0.below hb1
  replace y0 := y0.below hb1
  replace hX := hX.below hb1 (Nat.le_refl _)
  replace hO := hO.below hb1 (Nat.le_refl _)
  replace hb := hb.trans (hb1.mono hb.size)
  clear hb1 h28
  have c0 := x0.cell 0 rfl; have c1 := x0.cell 1 rfl; have c2 := x0.cell 2 rfl; have c3 := x0.cell 3 rfl; have c4 := x0.cell 4 rfl
  have d0 := y0.cell 0 rfl; have d1 := y0.cell 1 rfl; have d2 := y0.cell 2 rfl; have d3 := y0.cell 3 rfl; have d4 := y0.cell 4 rfl
  go_wp2_with fail
  refine (h29 _ _ _ _ _ _ _ _ _ hO).mono ?_
  rintro e Vc6 ⟨hb1, a1, g1, rfl, hP1⟩
  clear c0 c1 c2 c3 c4
  clear d0 d1 d2 d3 d4
  replace x0 := x0.below hb1
  replace y0 := y0.below hb1
  replace hX := hX.below hb1 (Nat.le_refl _)
  replace hO := hO.below hb1 (Nat.le_refl _)
  replace hb := hb.trans (hb1.mono hb.size)
  clear hb1 h29
  have c0 := x0.cell 0 rfl; have c1 := x0.cell 1 rfl; have c2 := x0.cell 2 rfl; have c3 := x0.cell 3 rfl; have c4 := x0.cell 4 rfl
  have d0 := y0.cell 0 rfl; have d1 := y0.cell 1 rfl; have d2 := y0.cell 2 rfl; have d3 := y0.cell 3 rfl; have d4 := y0.cell 4 rfl
  go_wp2_with fail
  refine (h30 _ _ _ _ _ _ _ _ _ hX).mono ?_
  rintro e Vc7 ⟨hb1, a2, g2, rfl, hP2⟩
  clear c0 c1 c2 c3 c4
  clear d0 d1 d2 d3 d4
  replace x0 := x0.below hb1
  replace y0 := y0.below hb1
  replace hX := hX.below hb1 (Nat.le_refl _)
  replace hO := hO.below hb1 (Nat.le_refl _)
  replace hP1 := hP1.below hb1 (Nat.le_refl _)
  replace hb := hb.trans (hb1.mono hb.size)
  clear hb1 h30
  have c0 := x0.cell 0 rfl; have c1 := x0.cell 1 rfl; have c2 := x0.cell 2 rfl; have c3 := x0.cell 3 rfl; have c4 := x0.cell 4 rfl
  have d0 := y0.cell 0 rfl; have d1 := y0.cell 1 rfl; have d2 := y0.cell 2 rfl; have d3 := y0.cell 3 rfl; have d4 := y0.cell 4 rfl
  go_wp2_with fail
  refine (h31 _ _ _ _ _ _ _ _ _ hO).mono ?_
  rintro e Vc8 ⟨rfl, hb1⟩
  clear c0 c1 c2 c3 c4
  clear d0 d1 d2 d3 d4
  replace x0 := x0.below hb1
  replace y0 := y0.below hb1
  replace hX := hX.below hb1 (Nat.le_refl _)
  replace hO := hO.below hb1 (Nat.le_refl _)
  replace hP1 := hP1.below hb1 (Nat.le_refl _)
  replace hP2 := hP2.below hb1 (Nat.le_refl _)
  replace hb := hb.trans (hb1.mono hb.size)
  clear hb1 h31
  have c0 := x0.cell 0 rfl; have c1 := x0.cell 1 rfl; have c2 := x0.cell 2 rfl; have c3 := x0.cell 3 rfl; have c4 := x0.cell 4 rfl
  have d0 := y0.cell 0 rfl; have d1 := y0.cell 1 rfl; have d2 := y0.cell 2 rfl; have d3 := y0.cell 3 rfl; have d4 := y0.cell 4 rfl
  go_wp2_with fail
  refine (h32 _ _ _ _ _ _ _ _ _ hX).mono ?_
  rintro e Vc9 ⟨rfl, hb1⟩
  clear c0 c1 c2 c3 c4
  clear d0 d1 d2 d3 d4
  replace x0 := x0.below hb1
  replace y0 := y0.below hb1
  replace hX := hX.below hb1 (Nat.le_refl _)
  replace hO := hO.below hb1 (Nat.le_refl _)
  replace hP1 := hP1.below hb1 (Nat.le_refl _)
  replace hP2 := hP2.below hb1 (Nat.le_refl _)
  replace hb := hb.trans (hb1.mono hb.size)
  clear hb1 h32
  have c0 := x0.cell 0 rfl; have c1 := x0.cell 1 rfl; have c2 := x0.cell 2 rfl; have c3 := x0.cell 3 rfl; have c4 := x0.cell 4 rfl
  have d0 := y0.cell 0 rfl; have d1 := y0.cell 1 rfl; have d2 := y0.cell 2 rfl; have d3 := y0.cell 3 rfl; have d4 := y0.cell 4 rfl
  go_wp2_with fail
  refine (h33 _ _ _ _ _ _ _ _ _ hO).mono ?_
  rintro e Vc10 ⟨hb1, ap, gp, rfl, hLp⟩
  clear c0 c1 c2 c3 c4
  clear d0 d1 d2 d3 d4
  replace x0 := x0.below hb1
  replace y0 := y0.below hb1
  replace hX := hX.below hb1 (Nat.le_refl _)
  replace hO := hO.below hb1 (Nat.le_refl _)
  replace hP1 := hP1.below hb1 (Nat.le_refl _)
  replace hP2 := hP2.below hb1 (Nat.le_refl _)
  replace hb := hb.trans (hb1.mono hb.size)
  clear hb1 h33
  have c0 := x0.cell 0 rfl; have c1 := x0.cell 1 rfl; have c2 := x0.cell 2 rfl; have c3 := x0.cell 3 rfl; have c4 := x0.cell 4 rfl
  have d0 := y0.cell 0 rfl; have d1 := y0.cell 1 rfl; have d2 := y0.cell 2 rfl; have d3 := y0.cell 3 rfl; have d4 := y0.cell 4 rfl
  go_wp2_with fail
  refine (hsk _ _ _ _ _ hP1 hP2).mono ?_
  rintro e Vc11 ⟨rfl, hb1⟩
  clear c0 c1 c2 c3 c4
  clear d0 d1 d2 d3 d4
  replace x0 := x0.below hb1
  replace y0 := y0.below hb1
  replace hX := hX.below hb1 (Nat.le_refl _)
  replace hO := hO.below hb1 (Nat.le_refl _)
  replace hP1 := hP1.below hb1 (Nat.le_refl _)
  replace hP2 := hP2.below hb1 (Nat.le_refl _)
  replace hLp := hLp.below hb1 (Nat.le_refl _)
  replace hb := hb.trans (hb1.mono hb.size)
  clear hb1 hsk
  have c0 := x0.cell 0 rfl; have c1 := x0.cell 1 rfl; have c2 := x0.cell 2 rfl; have c3 := x0.cell 3 rfl; have c4 := x0.cell 4 rfl
  have d0 := y0.cell 0 rfl; have d1 := y0.cell 1 rfl; have d2 := y0.cell 2 rfl; have d3 := y0.cell 3 rfl; have d4 := y0.cell 4 rfl
  go_wp2_with fail
  refine (hfl _ _ _ hLp).mono ?_
  rintro e Vc12 ⟨rfl, rfl⟩
  clear hfl
  go_wp2_with fail
  refine (hsm _ _ _ _ _ _ _ _ _ _ _ _ _ _ _ _ _ hO hX).mono ?_
  rintro e Vc13 ⟨rfl, hb1⟩
  clear c0 c1 c2 c3 c4
  clear d0 d1 d2 d3 d4
  replace x0 := x0.below hb1
  replace y0 := y0.below hb1
  replace hX := hX.below hb1 (Nat.le_refl _)
  replace hO := hO.below hb1 (Nat.le_refl _)
  replace hP1 := hP1.below hb1 (Nat.le_refl _)
  replace hP2 := hP2.below hb1 (Nat.le_refl _)
  replace hLp := hLp.below hb1 (Nat.le_refl _)
  replace hb := hb.trans (hb1.mono hb.size)
  clear hb1 hsm
  have c0 := x0.cell 0 rfl; have c1 := x0.cell 1 rfl; have c2 := x0.cell 2 rfl; have c3 := x0.cell 3 rfl; have c4 := x0.cell 4 rfl
  have d0 := y0.cell 0 rfl; have d1 := y0.cell 1 rfl; have d2 := y0.cell 2 rfl; have d3 := y0.cell 3 rfl; have d4 := y0.cell 4 rfl
  go_wp2_with fail
  refine (hwk _).mono ?_
  rintro e Vw ⟨rfl, hbw9⟩
  clear c0 c1 c2 c3 c4
  clear d0 d1 d2 d3 d4
  replace hb := hb.trans (hbw9.mono hb.size)
  go_wp2
  go_ret
  exact ⟨rfl, hb⟩
set_option maxRecDepth 100000 in
set_option maxHeartbeats 8000000 in
theorem swapsBest_v (ab ast ae ak : Option Addr) (cb cs ce ck : Nat) (X : Sw) (w : World) (hX : Swp w ab ast ae ak X) (hf : farB X = false) (hv : vB X = true) : Calls Try.prog 4 #[.agg #[.slice ab X.bs.length cb, .slice ast X.st.length cs, .slice ae X.er.length ce, .slice ak X.ks.length ck, .int .i64 X.ch]] w fun e w' => e = .returned (.bool true) ∧ Below w.heap.size w w' := by
  have hwk := works_any
  have hfa := fun V (h : Swp V ab ast ae ak X) => Far_any ab ast ae ak cb cs ce ck X V h
  rw [hf] at hfa
  obtain ⟨z1, z2, z3, z4, z5, z6⟩ := far_sizes hf
  have hcl := fun V (h : Swp V ab ast ae ak X) => Clone_swp ab ast ae ak cb cs ce ck X V h z1 z2 z3 z4 z5 z6
  have hsm := fun (a1 a2 a3 a4 : Option Addr) (c1 c2 c3 c4 : Nat) (b1 b2 b3 b4 : Option Addr) (d1 d2 d3 d4 : Nat) V (h : Swp V a1 a2 a3 a4 X) (h' : Swp V b1 b2 b3 b4 X) => same_eq a1 a2 a3 a4 b1 b2 b3 b4 c1 c2 c3 c4 d1 d2 d3 d4 X V h h'
  obtain ⟨W, hWW, hb, _, x0⟩ := boxes1 w #[.slice ab X.bs.length cb, .slice ast X.st.length cs, .slice ae X.er.length ce, .slice ak X.ks.length ck, .int .i64 X.ch] 26
  replace hX := hX.below hb (Nat.le_refl _)
  have hok := vB_iff hv
  have hbi := best_in hok
  have hn3 := hok.nb3
  obtain ⟨hpl, hpm⟩ := lists_plan hok hbi
  obtain ⟨PL, hPL⟩ : ∃ PL, PL = listsL (bestP X.vz) X.bs.length := ⟨_, rfl⟩
  have hlen : PL.length = X.bs.length := by rw [hPL]; exact listsL_len _ _
  have hfar : farL PL = false := by
    unfold farL
    rw [decide_eq_false (by omega), Bool.false_or, Bool.not_eq_false', List.all_eq_true]
    intro i hi
    have hm := getD_mem' PL [] (List.mem_range.1 hi)
    have : (PL.getD i []).length ≤ 6 := by
      generalize PL.getD i [] = l at *
      rw [hPL] at hm
      unfold listsL at hm
      rw [List.mem_map] at hm
      obtain ⟨k, _, rfl⟩ := hm
      exact bitL_len _
    unfold farI
    exact decide_eq_true (by omega)
  have h27 := fun (ab ast ae ak : Option Addr) (cb cs ce ck : Nat) V (h : Swp V ab ast ae ak X) => Best_ok ab ast ae ak cb cs ce ck X V h hv
  have h28 := fun (ab ast ae ak : Option Addr) (cb cs ce ck : Nat) V (h : Swp V ab ast ae ak X) => RBest_ok ab ast ae ak cb cs ce ck X V h hv
  obtain ⟨fv, fe, h31, h32⟩ : ∃ fv fe : Int, (∀ (ab ast ae ak : Option Addr) (cb cs ce ck : Nat) V, Swp V ab ast ae ak X → Calls Try.prog 31 #[.agg #[.slice ab X.bs.length cb, .slice ast X.st.length cs, .slice ae X.er.length ce, .slice ak X.ks.length ck, .int .i64 X.ch]] V fun e w' => e = .returned (.tuple #[.int .i64 fv, .int .i64 fe]) ∧ Below V.heap.size V w') ∧ (∀ (ab ast ae ak : Option Addr) (cb cs ce ck : Nat) V, Swp V ab ast ae ak X → Calls Try.prog 32 #[.agg #[.slice ab X.bs.length cb, .slice ast X.st.length cs, .slice ae X.er.length ce, .slice ak X.ks.length ck, .int .i64 X.ch]] V fun e w' => e = .returned (.tuple #[.int .i64 fv, .int .i64 fe]) ∧ Below V.heap.size V w') := by
    rcases Nat.eq_zero_or_pos X.bs.length with h0 | h1
    · exact ⟨0, 3, fun ab ast ae ak cb cs ce ck V h => Fair_zero ab ast ae ak cb cs ce ck X V h hv h0, fun ab ast ae ak cb cs ce ck V h => RFair_zero ab ast ae ak cb cs ce ck X V h hv h0⟩
    · exact ⟨fairV X.vz, 0, fun ab ast ae ak cb cs ce ck V h => Fair_ok ab ast ae ak cb cs ce ck X V h hv h1, fun ab ast ae ak cb cs ce ck V h => RFair_ok ab ast ae ak cb cs ce ck X V h hv h1⟩
  obtain ⟨L, hL⟩ : ∃ L, L = keepL (alwP X.vz) := ⟨_, rfl⟩
  have h29 := fun (ab ast ae ak : Option Addr) (cb cs ce ck : Nat) V (h : Swp V ab ast ae ak X) => Always_ok ab ast ae ak cb cs ce ck X V h hv L hL
  have h30 := fun (ab ast ae ak : Option Addr) (cb cs ce ck : Nat) V (h : Swp V ab ast ae ak X) => RAlways_ok ab ast ae ak cb cs ce ck X V h hv L hL
  have h33 : ∀ (ab ast ae ak : Option Addr) (cb cs ce ck : Nat) V, Swp V ab ast ae ak X → Calls Try.prog 33 #[.agg #[.slice ab X.bs.length cb, .slice ast X.st.length cs, .slice ae X.er.length ce, .slice ak X.ks.length ck, .int .i64 X.ch]] V fun e w' => Below V.heap.size V w' ∧ ∃ (a : Option Addr) (c : Nat), e = .returned (.tuple #[.slice a X.bs.length c, .int .i64 0]) ∧ Lss w' a PL := fun ab ast ae ak cb cs ce ck V h => (Plan_ok ab ast ae ak cb cs ce ck X V h hv).mono fun e w' k => by
    obtain ⟨k1, a, k2, k3⟩ := k
    exact ⟨k1, a, _, k2, by rw [hPL]; exact k3⟩
  have hsk := fun a b c d V (h : Prs V a L) (h' : Prs V b L) => SameKeeps_eq a b c d L V h h'
  have hfl := fun a c V (h : Lss V a PL) => farLists_any a c PL V h
  have h35 := fun (ab ast ae ak : Option Addr) (cb cs ce ck : Nat) a c V (h : Swp V ab ast ae ak X) (h' : Lss V a PL) => IsPlan_any ab ast ae ak cb cs ce ck X a c PL V h h'
  have h36 := fun (ab ast ae ak : Option Addr) (cb cs ce ck : Nat) a c V (h : Swp V ab ast ae ak X) (h' : Lss V a PL) => DoesFit_any ab ast ae ak cb cs ce ck X hok a c PL hlen V h h'
  have h37 := fun (ab ast ae ak : Option Addr) (cb cs ce ck : Nat) a c V (h : Swp V ab ast ae ak X) (h' : Lss V a PL) => EarnsAll_pl ab ast ae ak cb cs ce ck X hok a c PL (by rw [hPL]; exact hpl) V h h'
  have hpl2 : plB X PL = true := by rw [hPL]; exact hpl
  have hdf2 : dfB X PL = true := by rw [dfB_fit hok hpl2, hPL, hpm]; exact plans_fit hn3 hbi
  have hea2 : eaF X PL PL.length = earn X.vz (bestP X.vz) := by rw [earn_ea hok hpl2, hPL, hpm]
  rw [hfar] at hfl
  rw [hpl2] at h35
  rw [hdf2] at h36
  rw [hea2] at h37
  rw [hlen] at hfl h35 h36 h37
  generalize earn X.vz (bestP X.vz) = be at *
  have HLN := hid hlen
  obtain ⟨n, hn⟩ : ∃ n, n = L.length := ⟨_, rfl⟩
  rw [← hn] at h29 h30 hsk
  have hE1 : (be != be) = false := by simp
  have hE2 : (fv != fv) = false := by simp
  have hE3 : (fe != fe) = false := by simp
  clear hf hv z1 z2 z3 z4 z5 z6 hok hbi hn3 hpl hpm hPL hlen hfar hpl2 hdf2 hea2 hL hn
  have c0 := x0.cell 0 rfl; have c1 := x0.cell 1 rfl; have c2 := x0.cell 2 rfl; have c3 := x0.cell 3 rfl; have c4 := x0.cell 4 rfl
  go_enter Try.func4, Try.ntmps4
  go_wp2_with fail
  refine (hfa _ hX).mono ?_
  rintro e Vc1 ⟨rfl, hb1⟩
  clear c0 c1 c2 c3 c4
  replace x0 := x0.below hb1
  replace hX := hX.below hb1 (Nat.le_refl _)
  replace hb := hb.trans (hb1.mono hb.size)
  clear hb1 hfa
  have c0 := x0.cell 0 rfl; have c1 := x0.cell 1 rfl; have c2 := x0.cell 2 rfl; have c3 := x0.cell 3 rfl; have c4 := x0.cell 4 rfl
  go_wp2_with fail
  refine (hcl _ hX).mono ?_
  rintro e Vc2 ⟨hb1, oab, oast, oae, oak, ocb, ocs, oce, ock, rfl, hO⟩
  clear c0 c1 c2 c3 c4
  replace x0 := x0.below hb1
  replace hX := hX.below hb1 (Nat.le_refl _)
  replace hb := hb.trans (hb1.mono hb.size)
  clear hb1 hcl
  have c0 := x0.cell 0 rfl; have c1 := x0.cell 1 rfl; have c2 := x0.cell 2 rfl; have c3 := x0.cell 3 rfl; have c4 := x0.cell 4 rfl
  have hba := below_one (w := Vc2) (.cells #[.slice oab X.bs.length ocb, .slice oast X.st.length ocs, .slice oae X.er.length oce, .slice oak X.ks.length ock, .int .i64 X.ch] 26)
  have HXa := hid (And.intro (x0.below hba) (And.intro (hX.below hba (Nat.le_refl _)) (And.intro (hO.below hba (Nat.le_refl _)) (And.intro (hb.trans (hba.mono hb.size)) (Bx.new Vc2 #[.slice oab X.bs.length ocb, .slice oast X.st.length ocs, .slice oae X.er.length oce, .slice oak X.ks.length ock, .int .i64 X.ch] 26)))))
  clear hba hb x0 hX hO
  go_upto_region 4 with fail
  clear c0 c1 c2 c3 c4
  obtain ⟨x0, hX, hO, hb, y0⟩ := HXa.out
  clear HXa
  generalize Vc2.heap.size = sa_y0 at *
  generalize World.alloc _ _ = Va_y0 at *
  have c0 := x0.cell 0 rfl; have c1 := x0.cell 1 rfl; have c2 := x0.cell 2 rfl; have c3 := x0.cell 3 rfl; have c4 := x0.cell 4 rfl
  have d0 := y0.cell 0 rfl; have d1 := y0.cell 1 rfl; have d2 := y0.cell 2 rfl; have d3 := y0.cell 3 rfl; have d4 := y0.cell 4 rfl
  go_wp2_with fail
  refine (h27 _ _ _ _ _ _ _ _ _ hO).mono ?_
  rintro e Vc4 ⟨rfl, hb1⟩
  clear c0 c1 c2 c3 c4
  clear d0 d1 d2 d3 d4
  replace x0 := x0.below hb1
  replace y0 := y0.below hb1
  replace hX := hX.below hb1 (Nat.le_refl _)
  replace hO := hO.below hb1 (Nat.le_refl _)
  replace hb := hb.trans (hb1.mono hb.size)
  clear hb1 h27
  have c0 := x0.cell 0 rfl; have c1 := x0.cell 1 rfl; have c2 := x0.cell 2 rfl; have c3 := x0.cell 3 rfl; have c4 := x0.cell 4 rfl
  have d0 := y0.cell 0 rfl; have d1 := y0.cell 1 rfl; have d2 := y0.cell 2 rfl; have d3 := y0.cell 3 rfl; have d4 := y0.cell 4 rfl
  go_wp2_with fail
  refine (h28 _ _ _ _ _ _ _ _ _ hX).mono ?_
  rintro e Vc5 ⟨rfl, hb1⟩
  clear c0 c1 c2 c3 c4
  clear d0 d1 d2 d3 d4
  replace x0 := x0.below hb1
  replace y0 := y0.below hb1
  replace hX := hX.below hb1 (Nat.le_refl _)
  replace hO := hO.below hb1 (Nat.le_refl _)
  replace hb := hb.trans (hb1.mono hb.size)
  clear hb1 h28
  have c0 := x0.cell 0 rfl; have c1 := x0.cell 1 rfl; have c2 := x0.cell 2 rfl; have c3 := x0.cell 3 rfl; have c4 := x0.cell 4 rfl
  have d0 := y0.cell 0 rfl; have d1 := y0.cell 1 rfl; have d2 := y0.cell 2 rfl; have d3 := y0.cell 3 rfl; have d4 := y0.cell 4 rfl
  go_wp2_with fail
  refine (h29 _ _ _ _ _ _ _ _ _ hO).mono ?_
  rintro e Vc6 ⟨hb1, a1, g1, rfl, hP1⟩
  clear c0 c1 c2 c3 c4
  clear d0 d1 d2 d3 d4
  replace x0 := x0.below hb1
  replace y0 := y0.below hb1
  replace hX := hX.below hb1 (Nat.le_refl _)
  replace hO := hO.below hb1 (Nat.le_refl _)
  replace hb := hb.trans (hb1.mono hb.size)
  clear hb1 h29
  have c0 := x0.cell 0 rfl; have c1 := x0.cell 1 rfl; have c2 := x0.cell 2 rfl; have c3 := x0.cell 3 rfl; have c4 := x0.cell 4 rfl
  have d0 := y0.cell 0 rfl; have d1 := y0.cell 1 rfl; have d2 := y0.cell 2 rfl; have d3 := y0.cell 3 rfl; have d4 := y0.cell 4 rfl
  go_wp2_with fail
  refine (h30 _ _ _ _ _ _ _ _ _ hX).mono ?_
  rintro e Vc7 ⟨hb1, a2, g2, rfl, hP2⟩
  clear c0 c1 c2 c3 c4
  clear d0 d1 d2 d3 d4
  replace x0 := x0.below hb1
  replace y0 := y0.below hb1
  replace hX := hX.below hb1 (Nat.le_refl _)
  replace hO := hO.below hb1 (Nat.le_refl _)
  replace hP1 := hP1.below hb1 (Nat.le_refl _)
  replace hb := hb.trans (hb1.mono hb.size)
  clear hb1 h30
  have c0 := x0.cell 0 rfl; have c1 := x0.cell 1 rfl; have c2 := x0.cell 2 rfl; have c3 := x0.cell 3 rfl; have c4 := x0.cell 4 rfl
  have d0 := y0.cell 0 rfl; have d1 := y0.cell 1 rfl; have d2 := y0.cell 2 rfl; have d3 := y0.cell 3 rfl; have d4 := y0.cell 4 rfl
  go_wp2_with fail
  refine (h31 _ _ _ _ _ _ _ _ _ hO).mono ?_
  rintro e Vc8 ⟨rfl, hb1⟩
  clear c0 c1 c2 c3 c4
  clear d0 d1 d2 d3 d4
  replace x0 := x0.below hb1
  replace y0 := y0.below hb1
  replace hX := hX.below hb1 (Nat.le_refl _)
  replace hO := hO.below hb1 (Nat.le_refl _)
  replace hP1 := hP1.below hb1 (Nat.le_refl _)
  replace hP2 := hP2.below hb1 (Nat.le_refl _)
  replace hb := hb.trans (hb1.mono hb.size)
  clear hb1 h31
  have c0 := x0.cell 0 rfl; have c1 := x0.cell 1 rfl; have c2 := x0.cell 2 rfl; have c3 := x0.cell 3 rfl; have c4 := x0.cell 4 rfl
  have d0 := y0.cell 0 rfl; have d1 := y0.cell 1 rfl; have d2 := y0.cell 2 rfl; have d3 := y0.cell 3 rfl; have d4 := y0.cell 4 rfl
  go_wp2_with fail
  refine (h32 _ _ _ _ _ _ _ _ _ hX).mono ?_
  rintro e Vc9 ⟨rfl, hb1⟩
  clear c0 c1 c2 c3 c4
  clear d0 d1 d2 d3 d4
  replace x0 := x0.below hb1
  replace y0 := y0.below hb1
  replace hX := hX.below hb1 (Nat.le_refl _)
  replace hO := hO.below hb1 (Nat.le_refl _)
  replace hP1 := hP1.below hb1 (Nat.le_refl _)
  replace hP2 := hP2.below hb1 (Nat.le_refl _)
  replace hb := hb.trans (hb1.mono hb.size)
  clear hb1 h32
  have c0 := x0.cell 0 rfl; have c1 := x0.cell 1 rfl; have c2 := x0.cell 2 rfl; have c3 := x0.cell 3 rfl; have c4 := x0.cell 4 rfl
  have d0 := y0.cell 0 rfl; have d1 := y0.cell 1 rfl; have d2 := y0.cell 2 rfl; have d3 := y0.cell 3 rfl; have d4 := y0.cell 4 rfl
  go_wp2_with fail
  refine (h33 _ _ _ _ _ _ _ _ _ hO).mono ?_
  rintro e Vc10 ⟨hb1, ap, gp, rfl, hLp⟩
  clear c0 c1 c2 c3 c4
  clear d0 d1 d2 d3 d4
  replace x0 := x0.below hb1
  replace y0 := y0.below hb1
  replace hX := hX.below hb1 (Nat.le_refl _)
  replace hO := hO.below hb1 (Nat.le_refl _)
  replace hP1 := hP1.below hb1 (Nat.le_refl _)
  replace hP2 := hP2.below hb1 (Nat.le_refl _)
  replace hb := hb.trans (hb1.mono hb.size)
  clear hb1 h33
  have c0 := x0.cell 0 rfl; have c1 := x0.cell 1 rfl; have c2 := x0.cell 2 rfl; have c3 := x0.cell 3 rfl; have c4 := x0.cell 4 rfl
  have d0 := y0.cell 0 rfl; have d1 := y0.cell 1 rfl; have d2 := y0.cell 2 rfl; have d3 := y0.cell 3 rfl; have d4 := y0.cell 4 rfl
  go_wp2_with fail
  refine (hsk _ _ _ _ _ hP1 hP2).mono ?_
  rintro e Vc11 ⟨rfl, hb1⟩
  clear c0 c1 c2 c3 c4
  clear d0 d1 d2 d3 d4
  replace x0 := x0.below hb1
  replace y0 := y0.below hb1
  replace hX := hX.below hb1 (Nat.le_refl _)
  replace hO := hO.below hb1 (Nat.le_refl _)
  replace hP1 := hP1.below hb1 (Nat.le_refl _)
  replace hP2 := hP2.below hb1 (Nat.le_refl _)
  replace hLp := hLp.below hb1 (Nat.le_refl _)
  replace hb := hb.trans (hb1.mono hb.size)
  clear hb1 hsk
  have c0 := x0.cell 0 rfl; have c1 := x0.cell 1 rfl; have c2 := x0.cell 2 rfl; have c3 := x0.cell 3 rfl; have c4 := x0.cell 4 rfl
  have d0 := y0.cell 0 rfl; have d1 := y0.cell 1 rfl; have d2 := y0.cell 2 rfl; have d3 := y0.cell 3 rfl; have d4 := y0.cell 4 rfl
  go_wp2_with fail
  refine (hfl _ _ _ hLp).mono ?_
  rintro e Vc12 ⟨rfl, rfl⟩
  clear hfl
  go_wp2_with fail
  refine (hsm _ _ _ _ _ _ _ _ _ _ _ _ _ _ _ _ _ hO hX).mono ?_
  rintro e Vc13 ⟨rfl, hb1⟩
  clear c0 c1 c2 c3 c4
  clear d0 d1 d2 d3 d4
  replace x0 := x0.below hb1
  replace y0 := y0.below hb1
  replace hX := hX.below hb1 (Nat.le_refl _)
  replace hO := hO.below hb1 (Nat.le_refl _)
  replace hP1 := hP1.below hb1 (Nat.le_refl _)
  replace hP2 := hP2.below hb1 (Nat.le_refl _)
  replace hLp := hLp.below hb1 (Nat.le_refl _)
  replace hb := hb.trans (hb1.mono hb.size)
  clear hb1 hsm
  have c0 := x0.cell 0 rfl; have c1 := x0.cell 1 rfl; have c2 := x0.cell 2 rfl; have c3 := x0.cell 3 rfl; have c4 := x0.cell 4 rfl
  have d0 := y0.cell 0 rfl; have d1 := y0.cell 1 rfl; have d2 := y0.cell 2 rfl; have d3 := y0.cell 3 rfl; have d4 := y0.cell 4 rfl
  go_wp2_with fail
  refine (h35 _ _ _ _ _ _ _ _ _ _ _ hX hLp).mono ?_
  rintro e Vc14 ⟨rfl, hb1⟩
  clear c0 c1 c2 c3 c4
  clear d0 d1 d2 d3 d4
  replace x0 := x0.below hb1
  replace y0 := y0.below hb1
  replace hX := hX.below hb1 (Nat.le_refl _)
  replace hO := hO.below hb1 (Nat.le_refl _)
  replace hP1 := hP1.below hb1 (Nat.le_refl _)
  replace hP2 := hP2.below hb1 (Nat.le_refl _)
  replace hLp := hLp.below hb1 (Nat.le_refl _)
  replace hb := hb.trans (hb1.mono hb.size)
  clear hb1 h35
  have c0 := x0.cell 0 rfl; have c1 := x0.cell 1 rfl; have c2 := x0.cell 2 rfl; have c3 := x0.cell 3 rfl; have c4 := x0.cell 4 rfl
  have d0 := y0.cell 0 rfl; have d1 := y0.cell 1 rfl; have d2 := y0.cell 2 rfl; have d3 := y0.cell 3 rfl; have d4 := y0.cell 4 rfl
  go_wp2_with fail
  refine (h36 _ _ _ _ _ _ _ _ _ _ _ hX hLp).mono ?_
  rintro e Vc15 ⟨rfl, hb1⟩
  clear c0 c1 c2 c3 c4
  clear d0 d1 d2 d3 d4
  replace x0 := x0.below hb1
  replace y0 := y0.below hb1
  replace hX := hX.below hb1 (Nat.le_refl _)
  replace hO := hO.below hb1 (Nat.le_refl _)
  replace hP1 := hP1.below hb1 (Nat.le_refl _)
  replace hP2 := hP2.below hb1 (Nat.le_refl _)
  replace hLp := hLp.below hb1 (Nat.le_refl _)
  replace hb := hb.trans (hb1.mono hb.size)
  clear hb1 h36
  have c0 := x0.cell 0 rfl; have c1 := x0.cell 1 rfl; have c2 := x0.cell 2 rfl; have c3 := x0.cell 3 rfl; have c4 := x0.cell 4 rfl
  have d0 := y0.cell 0 rfl; have d1 := y0.cell 1 rfl; have d2 := y0.cell 2 rfl; have d3 := y0.cell 3 rfl; have d4 := y0.cell 4 rfl
  go_wp2_with fail
  refine (h37 _ _ _ _ _ _ _ _ _ _ _ hX hLp).mono ?_
  rintro e Vc16 ⟨rfl, hb1⟩
  clear c0 c1 c2 c3 c4
  clear d0 d1 d2 d3 d4
  replace x0 := x0.below hb1
  replace y0 := y0.below hb1
  replace hX := hX.below hb1 (Nat.le_refl _)
  replace hO := hO.below hb1 (Nat.le_refl _)
  replace hP1 := hP1.below hb1 (Nat.le_refl _)
  replace hP2 := hP2.below hb1 (Nat.le_refl _)
  replace hLp := hLp.below hb1 (Nat.le_refl _)
  replace hb := hb.trans (hb1.mono hb.size)
  clear hb1 h37
  have c0 := x0.cell 0 rfl; have c1 := x0.cell 1 rfl; have c2 := x0.cell 2 rfl; have c3 := x0.cell 3 rfl; have c4 := x0.cell 4 rfl
  have d0 := y0.cell 0 rfl; have d1 := y0.cell 1 rfl; have d2 := y0.cell 2 rfl; have d3 := y0.cell 3 rfl; have d4 := y0.cell 4 rfl
  go_wp2_with fail
  refine (hwk _).mono ?_
  rintro e Vw ⟨rfl, hbw9⟩
  clear c0 c1 c2 c3 c4
  clear d0 d1 d2 d3 d4
  replace hb := hb.trans (hbw9.mono hb.size)
  go_wp2
  go_ret
  exact ⟨rfl, hb⟩
theorem swapsBest_row (ab ast ae ak : Option Addr) (cb cs ce ck : Nat) (X : Sw) (w : World) (hX : SwIn w ab ast ae ak X) : Calls Try.prog 4 #[.agg #[.slice ab X.bs.length cb, .slice ast X.st.length cs, .slice ae X.er.length ce, .slice ak X.ks.length ck, .int .i64 X.ch]] w fun e w' => e = .returned (.bool true) ∧ Below w.heap.size w w' := by
  by_cases hk : X.ks.length ≤ 1000
  · have hs := hX.swp hk
    cases hf : farB X with
    | true =>
      refine BestN_far ab ast ae ak cb cs ce ck X w (fun V hV => ?_)
      have := Far_any ab ast ae ak cb cs ce ck X V (hs.below hV (Nat.le_refl _))
      rw [hf] at this
      exact this
    | false =>
      cases hv : vB X with
      | true => exact swapsBest_v ab ast ae ak cb cs ce ck X w hs hf hv
      | false => exact swapsBest_n ab ast ae ak cb cs ce ck X w hs hf hv
  · exact BestN_far ab ast ae ak cb cs ce ck X w (fun V hV => Far_huge ab ast ae ak cb cs ce ck X V (hX.below hV (Nat.le_refl _)) (by omega))
end Go.Proofs.Ytipdohpbilabiaa
