import Derived.Test.YtipdohpbilabiaaN2
import Derived.Test.YtipdohpbilabiaaN9
import Derived.Test.YtipdohpbilabiaaM6
import Derived.Test.YtipdohpbilabiaaVL
import Derived.Test.YtipdohpbilabiaaVJ
/-! Check of the program; Fits and Earns of the reference. -/
namespace Go.Proofs.Ytipdohpbilabiaa
set_option linter.unusedSimpArgs false
set_option linter.unusedVariables false
open Go Go.RowKit

set_option maxRecDepth 100000 in
set_option maxHeartbeats 2000000 in
theorem PCheck_any (ab ast ae ak : Option Addr) (cb cs ce ck : Nat) (X : Sw) (w : World) (hX : Swp w ab ast ae ak X) : Calls Try.prog 17 #[.agg #[.slice ab X.bs.length cb, .slice ast X.st.length cs, .slice ae X.er.length ce, .slice ak X.ks.length ck, .int .i64 X.ch]] w fun e w' => e = .returned (.int .i64 (cod (vB X))) ∧ Below w.heap.size w w' := by
  obtain ⟨W, hW, hb, _, x0⟩ := boxes1 w #[.slice ab X.bs.length cb, .slice ast X.st.length cs, .slice ae X.er.length ce, .slice ak X.ks.length ck, .int .i64 X.ch] 26
  have hv := valid_any ab ast ae ak cb cs ce ck X W (hX.below hb (Nat.le_refl _))
  have c0 := x0.cell 0 rfl; have c1 := x0.cell 1 rfl; have c2 := x0.cell 2 rfl; have c3 := x0.cell 3 rfl; have c4 := x0.cell 4 rfl
  clear hX
  cases hvb : vB X
  · rw [hvb] at hv
    go_enter Try.func17, Try.ntmps17
    go_wp2_with fail
    refine hv.mono ?_
    rintro e V1 ⟨rfl, hb1⟩
    replace hb := hb.trans (hb1.mono hb.size)
    clear hv hb1 x0 c0 c1 c2 c3 c4
    go_wp2
    go_ret
    exact ⟨rfl, hb⟩
  · rw [hvb] at hv
    go_enter Try.func17, Try.ntmps17
    go_wp2_with fail
    refine hv.mono ?_
    rintro e V1 ⟨rfl, hb1⟩
    replace hb := hb.trans (hb1.mono hb.size)
    clear hv hb1 x0 c0 c1 c2 c3 c4
    go_wp2
    go_ret
    exact ⟨rfl, hb⟩

set_option maxRecDepth 100000 in
set_option maxHeartbeats 2000000 in
theorem RFits_v (ab ast ae ak : Option Addr) (cb cs ce ck : Nat) (X : Sw) (ap : Option Addr) (cp : Nat) (P : List (List Int)) (w : World) (hX : Swp w ab ast ae ak X) (hP : Lss w ap P) (hv : vB X = false) : Calls Try.prog 20 #[.agg #[.slice ab X.bs.length cb, .slice ast X.st.length cs, .slice ae X.er.length ce, .slice ak X.ks.length ck, .int .i64 X.ch], .slice ap P.length cp] w fun e w' => e = .returned (.tuple #[.bool false, .int .i64 70]) ∧ Below w.heap.size w w' := by
  obtain ⟨W, hW, hb, _, x0⟩ := boxes1 w #[.slice ab X.bs.length cb, .slice ast X.st.length cs, .slice ae X.er.length ce, .slice ak X.ks.length ck, .int .i64 X.ch] 26
  have hgX := fun V (h : Below w.heap.size w V) => hX.below h (Nat.le_refl _)
  have hgP := fun V (h : Below w.heap.size w V) => hP.below h (Nat.le_refl _)
  have hck := fun V h => Check_any ab ast ae ak cb cs ce ck X V (hgX V h)
  have hip := fun V h => IsPlan_any ab ast ae ak cb cs ce ck X ap cp P V (hgX V h) (hgP V h)
  rw [hv, show cod false = 70 from rfl] at hck
  clear hX hP hv hgX hgP hip
  have c0 := x0.cell 0 rfl; have c1 := x0.cell 1 rfl; have c2 := x0.cell 2 rfl; have c3 := x0.cell 3 rfl; have c4 := x0.cell 4 rfl
  go_enter Try.func20, Try.ntmps20
  go_wp2_with fail
  refine (hck _ hb).mono ?_
  rintro e Vn ⟨rfl, hb1⟩
  replace hb := hb.trans (hb1.mono hb.size)
  replace x0 := x0.below hb1
  clear hb1 c0 c1 c2 c3 c4
  have c0 := x0.cell 0 rfl; have c1 := x0.cell 1 rfl; have c2 := x0.cell 2 rfl; have c3 := x0.cell 3 rfl; have c4 := x0.cell 4 rfl
  go_wp2
  go_ret2
  exact ⟨rfl, hb⟩

set_option maxRecDepth 100000 in
set_option maxHeartbeats 2000000 in
theorem RFits_p (ab ast ae ak : Option Addr) (cb cs ce ck : Nat) (X : Sw) (ap : Option Addr) (cp : Nat) (P : List (List Int)) (w : World) (hX : Swp w ab ast ae ak X) (hP : Lss w ap P) (hv : vB X = true) (hpl : plB X P = false) : Calls Try.prog 20 #[.agg #[.slice ab X.bs.length cb, .slice ast X.st.length cs, .slice ae X.er.length ce, .slice ak X.ks.length ck, .int .i64 X.ch], .slice ap P.length cp] w fun e w' => e = .returned (.tuple #[.bool false, .int .i64 1]) ∧ Below w.heap.size w w' := by
  obtain ⟨W, hW, hb, _, x0⟩ := boxes1 w #[.slice ab X.bs.length cb, .slice ast X.st.length cs, .slice ae X.er.length ce, .slice ak X.ks.length ck, .int .i64 X.ch] 26
  have hgX := fun V (h : Below w.heap.size w V) => hX.below h (Nat.le_refl _)
  have hgP := fun V (h : Below w.heap.size w V) => hP.below h (Nat.le_refl _)
  have hck := fun V h => Check_any ab ast ae ak cb cs ce ck X V (hgX V h)
  have hip := fun V h => IsPlan_any ab ast ae ak cb cs ce ck X ap cp P V (hgX V h) (hgP V h)
  rw [hv, show cod true = 0 from rfl] at hck
  rw [hpl] at hip
  clear hX hP hv hgX hgP hpl
  have c0 := x0.cell 0 rfl; have c1 := x0.cell 1 rfl; have c2 := x0.cell 2 rfl; have c3 := x0.cell 3 rfl; have c4 := x0.cell 4 rfl
  go_enter Try.func20, Try.ntmps20
  go_wp2_with fail
  refine (hck _ hb).mono ?_
  rintro e Vn ⟨rfl, hb1⟩
  replace hb := hb.trans (hb1.mono hb.size)
  replace x0 := x0.below hb1
  clear hb1 c0 c1 c2 c3 c4
  have c0 := x0.cell 0 rfl; have c1 := x0.cell 1 rfl; have c2 := x0.cell 2 rfl; have c3 := x0.cell 3 rfl; have c4 := x0.cell 4 rfl
  go_wp2_with fail
  refine (hip _ hb).mono ?_
  rintro e Vn ⟨rfl, hb1⟩
  replace hb := hb.trans (hb1.mono hb.size)
  replace x0 := x0.below hb1
  clear hb1 c0 c1 c2 c3 c4
  have c0 := x0.cell 0 rfl; have c1 := x0.cell 1 rfl; have c2 := x0.cell 2 rfl; have c3 := x0.cell 3 rfl; have c4 := x0.cell 4 rfl
  go_wp2
  go_ret2
  exact ⟨rfl, hb⟩

set_option maxRecDepth 100000 in
set_option maxHeartbeats 2000000 in
theorem RFits_ok (ab ast ae ak : Option Addr) (cb cs ce ck : Nat) (X : Sw) (ap : Option Addr) (cp : Nat) (P : List (List Int)) (w : World) (hX : Swp w ab ast ae ak X) (hP : Lss w ap P) (hv : vB X = true) (hpl : plB X P = true) : Calls Try.prog 20 #[.agg #[.slice ab X.bs.length cb, .slice ast X.st.length cs, .slice ae X.er.length ce, .slice ak X.ks.length ck, .int .i64 X.ch], .slice ap P.length cp] w fun e w' => e = .returned (.tuple #[.bool (fitA X.vz (planM P)), .int .i64 0]) ∧ Below w.heap.size w w' := by
  obtain ⟨W, hW, hb, _, x0⟩ := boxes1 w #[.slice ab X.bs.length cb, .slice ast X.st.length cs, .slice ae X.er.length ce, .slice ak X.ks.length ck, .int .i64 X.ch] 26
  have hgX := fun V (h : Below w.heap.size w V) => hX.below h (Nat.le_refl _)
  have hgP := fun V (h : Below w.heap.size w V) => hP.below h (Nat.le_refl _)
  have hck := fun V h => Check_any ab ast ae ak cb cs ce ck X V (hgX V h)
  have hip := fun V h => IsPlan_any ab ast ae ak cb cs ce ck X ap cp P V (hgX V h) (hgP V h)
  have hok := vB_iff hv
  have hdf := fun V h => DoesFit_any ab ast ae ak cb cs ce ck X hok ap cp P (plB_title hok hpl).1 V (hgX V h) (hgP V h)
  rw [dfB_fit hok hpl] at hdf
  generalize fitA X.vz (planM P) = fa at *
  rw [hv, show cod true = 0 from rfl] at hck
  rw [hpl] at hip
  clear hX hP hv hgX hgP hpl hok
  have c0 := x0.cell 0 rfl; have c1 := x0.cell 1 rfl; have c2 := x0.cell 2 rfl; have c3 := x0.cell 3 rfl; have c4 := x0.cell 4 rfl
  go_enter Try.func20, Try.ntmps20
  go_wp2_with fail
  refine (hck _ hb).mono ?_
  rintro e Vn ⟨rfl, hb1⟩
  replace hb := hb.trans (hb1.mono hb.size)
  replace x0 := x0.below hb1
  clear hb1 c0 c1 c2 c3 c4
  have c0 := x0.cell 0 rfl; have c1 := x0.cell 1 rfl; have c2 := x0.cell 2 rfl; have c3 := x0.cell 3 rfl; have c4 := x0.cell 4 rfl
  go_wp2_with fail
  refine (hip _ hb).mono ?_
  rintro e Vn ⟨rfl, hb1⟩
  replace hb := hb.trans (hb1.mono hb.size)
  replace x0 := x0.below hb1
  clear hb1 c0 c1 c2 c3 c4
  have c0 := x0.cell 0 rfl; have c1 := x0.cell 1 rfl; have c2 := x0.cell 2 rfl; have c3 := x0.cell 3 rfl; have c4 := x0.cell 4 rfl
  go_wp2_with fail
  refine (hdf _ hb).mono ?_
  rintro e Vn ⟨rfl, hb1⟩
  replace hb := hb.trans (hb1.mono hb.size)
  replace x0 := x0.below hb1
  clear hb1 c0 c1 c2 c3 c4
  have c0 := x0.cell 0 rfl; have c1 := x0.cell 1 rfl; have c2 := x0.cell 2 rfl; have c3 := x0.cell 3 rfl; have c4 := x0.cell 4 rfl
  go_wp2
  go_ret2
  exact ⟨rfl, hb⟩

set_option maxRecDepth 100000 in
set_option maxHeartbeats 2000000 in
theorem REarns_v (ab ast ae ak : Option Addr) (cb cs ce ck : Nat) (X : Sw) (ap : Option Addr) (cp : Nat) (P : List (List Int)) (w : World) (hX : Swp w ab ast ae ak X) (hP : Lss w ap P) (hv : vB X = false) : Calls Try.prog 22 #[.agg #[.slice ab X.bs.length cb, .slice ast X.st.length cs, .slice ae X.er.length ce, .slice ak X.ks.length ck, .int .i64 X.ch], .slice ap P.length cp] w fun e w' => e = .returned (.tuple #[.slice none 0 0, .int .i64 0, .int .i64 70]) ∧ Below w.heap.size w w' := by
  obtain ⟨W, hW, hb, _, x0⟩ := boxes1 w #[.slice ab X.bs.length cb, .slice ast X.st.length cs, .slice ae X.er.length ce, .slice ak X.ks.length ck, .int .i64 X.ch] 26
  have hgX := fun V (h : Below w.heap.size w V) => hX.below h (Nat.le_refl _)
  have hgP := fun V (h : Below w.heap.size w V) => hP.below h (Nat.le_refl _)
  have hck := fun V h => Check_any ab ast ae ak cb cs ce ck X V (hgX V h)
  have hip := fun V h => IsPlan_any ab ast ae ak cb cs ce ck X ap cp P V (hgX V h) (hgP V h)
  rw [hv, show cod false = 70 from rfl] at hck
  clear hX hP hv hgX hgP hip
  have c0 := x0.cell 0 rfl; have c1 := x0.cell 1 rfl; have c2 := x0.cell 2 rfl; have c3 := x0.cell 3 rfl; have c4 := x0.cell 4 rfl
  go_enter Try.func22, Try.ntmps22
  go_wp2_with fail
  refine (hck _ hb).mono ?_
  rintro e Vn ⟨rfl, hb1⟩
  replace hb := hb.trans (hb1.mono hb.size)
  replace x0 := x0.below hb1
  clear hb1 c0 c1 c2 c3 c4
  have c0 := x0.cell 0 rfl; have c1 := x0.cell 1 rfl; have c2 := x0.cell 2 rfl; have c3 := x0.cell 3 rfl; have c4 := x0.cell 4 rfl
  go_wp2
  go_ret3
  exact ⟨rfl, hb⟩

set_option maxRecDepth 100000 in
set_option maxHeartbeats 2000000 in
theorem REarns_p (ab ast ae ak : Option Addr) (cb cs ce ck : Nat) (X : Sw) (ap : Option Addr) (cp : Nat) (P : List (List Int)) (w : World) (hX : Swp w ab ast ae ak X) (hP : Lss w ap P) (hv : vB X = true) (hpl : plB X P = false) : Calls Try.prog 22 #[.agg #[.slice ab X.bs.length cb, .slice ast X.st.length cs, .slice ae X.er.length ce, .slice ak X.ks.length ck, .int .i64 X.ch], .slice ap P.length cp] w fun e w' => e = .returned (.tuple #[.slice none 0 0, .int .i64 0, .int .i64 1]) ∧ Below w.heap.size w w' := by
  obtain ⟨W, hW, hb, _, x0⟩ := boxes1 w #[.slice ab X.bs.length cb, .slice ast X.st.length cs, .slice ae X.er.length ce, .slice ak X.ks.length ck, .int .i64 X.ch] 26
  have hgX := fun V (h : Below w.heap.size w V) => hX.below h (Nat.le_refl _)
  have hgP := fun V (h : Below w.heap.size w V) => hP.below h (Nat.le_refl _)
  have hck := fun V h => Check_any ab ast ae ak cb cs ce ck X V (hgX V h)
  have hip := fun V h => IsPlan_any ab ast ae ak cb cs ce ck X ap cp P V (hgX V h) (hgP V h)
  rw [hv, show cod true = 0 from rfl] at hck
  rw [hpl] at hip
  clear hX hP hv hgX hgP hpl
  have c0 := x0.cell 0 rfl; have c1 := x0.cell 1 rfl; have c2 := x0.cell 2 rfl; have c3 := x0.cell 3 rfl; have c4 := x0.cell 4 rfl
  go_enter Try.func22, Try.ntmps22
  go_wp2_with fail
  refine (hck _ hb).mono ?_
  rintro e Vn ⟨rfl, hb1⟩
  replace hb := hb.trans (hb1.mono hb.size)
  replace x0 := x0.below hb1
  clear hb1 c0 c1 c2 c3 c4
  have c0 := x0.cell 0 rfl; have c1 := x0.cell 1 rfl; have c2 := x0.cell 2 rfl; have c3 := x0.cell 3 rfl; have c4 := x0.cell 4 rfl
  go_wp2_with fail
  refine (hip _ hb).mono ?_
  rintro e Vn ⟨rfl, hb1⟩
  replace hb := hb.trans (hb1.mono hb.size)
  replace x0 := x0.below hb1
  clear hb1 c0 c1 c2 c3 c4
  have c0 := x0.cell 0 rfl; have c1 := x0.cell 1 rfl; have c2 := x0.cell 2 rfl; have c3 := x0.cell 3 rfl; have c4 := x0.cell 4 rfl
  go_wp2
  go_ret3
  exact ⟨rfl, hb⟩

theorem cell_gro {w w' : World} {p : Addr} {v : Value} {r : Option Nat} (h : w.cell? p = some v) (hg : w.grownBy w' r) (hne : ∀ q, r = some q → p.block ≠ q) : w'.cell? p = some v := by
  have hk := hg.block p.block (cell_lt h) (fun e => hne _ e.symm rfl)
  rw [← h]
  unfold World.cell?
  simp only [hk]
theorem eaL_succ (V : Vz) (p : Pl) (k : Nat) : earL V p (k + 1) = earL V p k ++ [earB V p k] := earL_succ V p k
theorem ear_ei {X : Sw} (hok : XOk X) {P : List (List Int)} (hpl : plB X P = true) {k : Nat} (hk : k < P.length) : eiF X k (P.getD k []) = earB X.vz (planM P) k := by
  obtain ⟨hl, hp⟩ := plB_parts hpl
  have hn3 := hok.nb3
  have h6 : ntI X < 6 := by unfold ntI; have := hok.t6; omega
  obtain ⟨hlen, hr⟩ := hp k hk
  have h3 := (hok.b3 k (by omega)).1
  unfold eiF earB
  rw [show (planM P).get k = mask (P.getD k []) from now_get P hk (by omega), bits_mask hr h6 (by omega)]

set_option maxRecDepth 100000 in
set_option maxHeartbeats 4000000 in
theorem REarns_ok (ab ast ae ak : Option Addr) (cb cs ce ck : Nat) (X : Sw) (ap : Option Addr) (cp : Nat) (P : List (List Int)) (w : World) (hX : Swp w ab ast ae ak X) (hP : Lss w ap P) (hv : vB X = true) (hpl : plB X P = true) : Calls Try.prog 22 #[.agg #[.slice ab X.bs.length cb, .slice ast X.st.length cs, .slice ae X.er.length ce, .slice ak X.ks.length ck, .int .i64 X.ch], .slice ap P.length cp] w fun e w' => Below w.heap.size w w' ∧ ∃ a c, e = .returned (.tuple #[.slice a X.bs.length c, .int .i64 (earn X.vz (planM P)), .int .i64 0]) ∧ Ints w' a (earL X.vz (planM P) X.bs.length) := by
  obtain ⟨j0, hj, jz0, jz1, jz2⟩ := info_parts info3i
  obtain ⟨W, hW, hb, _, x0⟩ := boxes1 w #[.slice ab X.bs.length cb, .slice ast X.st.length cs, .slice ae X.er.length ce, .slice ak X.ks.length ck, .int .i64 X.ch] 26
  have hok := vB_iff hv
  have ht := plB_title hok hpl
  have hn3 := hok.nb3
  have hpp := plB_parts hpl
  have hp6 : ∀ l ∈ P, l.length ≤ 6 := fun l hl => by
    obtain ⟨i, hi, rfl⟩ := mem_getD [] hl
    have h2 := hpp.2 i hi
    have h4 := (hok.b3 i (by omega)).1
    omega
  have hgX := fun V (h : Below w.heap.size w V) => hX.below h (Nat.le_refl _)
  have hgP := fun V (h : Below w.heap.size w V) => hP.below h (Nat.le_refl _)
  have hck := fun V h => Check_any ab ast ae ak cb cs ce ck X V (hgX V h)
  have hip := fun V h => IsPlan_any ab ast ae ak cb cs ce ck X ap cp P V (hgX V h) (hgP V h)
  rw [hv, show cod true = 0 from rfl] at hck
  rw [hpl] at hip
  have hea : ∀ V, Below w.heap.size w V → Calls Try.prog 37 #[.agg #[.slice ab X.bs.length cb, .slice ast X.st.length cs, .slice ae X.er.length ce, .slice ak X.ks.length ck, .int .i64 X.ch], .slice ap P.length cp] V fun e w' => e = .returned (.int .i64 (earn X.vz (planM P))) ∧ Below V.heap.size V w' := fun V h => by
    have h1 := EarnsAll_any ab ast ae ak cb cs ce ck X hok ap cp P ht.1 (fun l hl => ⟨hp6 l hl, ht.2 l hl⟩) V (hgX V h) (hgP V h)
    rw [earn_ea hok hpl] at h1
    exact h1
  have HE : ∀ (k : Nat) (V : World) (al : Option Addr) (cl : Nat), k < P.length → Below w.heap.size w V → Ints V al (P.getD k []) → Calls Try.prog 59 #[.agg #[.slice ab X.bs.length cb, .slice ast X.st.length cs, .slice ae X.er.length ce, .slice ak X.ks.length ck, .int .i64 X.ch], .int .i64 (k : Int), .slice al (P.getD k []).length cl] V fun e w' => e = .returned (.int .i64 (earB X.vz (planM P) k)) ∧ Below V.heap.size V w' := fun k V al cl hk hV hI => by
    have hm := getD_mem' P [] hk
    rw [← ear_ei hok hpl hk]
    exact EarnsIn_any ab ast ae ak cb cs ce ck X hok k (by rw [← ht.1]; exact hk) al cl _ (ht.2 _ hm) (hp6 _ hm) V (hgX V hV) hI
  have hle : ∀ k, ∀ y ∈ earL X.vz (planM P) k, 0 ≤ y ∧ y ≤ 6000 := fun k => earL_le (vz_ok hok) (planM P) k
  have hll : ∀ k, (earL X.vz (planM P) k).length = k := earL_len X.vz (planM P)
  have hls : ∀ k, earL X.vz (planM P) (k + 1) = earL X.vz (planM P) k ++ [earB X.vz (planM P) k] := earL_succ X.vz (planM P)
  have HNN : X.bs.length = P.length := ht.1.symm
  have HX := hid (And.intro HE (And.intro hle (And.intro hll hls)))
  have hn3' : P.length ≤ 3 := by omega
  generalize earn X.vz (planM P) = en at *
  generalize earL X.vz (planM P) = eL at *
  generalize earB X.vz (planM P) = eB at *
  obtain ⟨n, hn⟩ : ∃ n, n = P.length := ⟨_, rfl⟩
  have HN := hid hn
  rw [← hn] at hn3' HNN hip hea ⊢
  have HNN' := hid HNN
  have c0 := x0.cell 0 rfl; have c1 := x0.cell 1 rfl; have c2 := x0.cell 2 rfl; have c3 := x0.cell 3 rfl; have c4 := x0.cell 4 rfl
  clear hX hv hpl hok ht hpp hp6 hP HE hle hll hls hn3 hn HNN hgX
  go_enter Try.func22, Try.ntmps22
  go_wp2_with fail
  refine (hck _ hb).mono ?_
  rintro e Vn ⟨rfl, hb1⟩
  replace hb := hb.trans (hb1.mono hb.size)
  replace x0 := x0.below hb1
  clear hb1 c0 c1 c2 c3 c4
  have c0 := x0.cell 0 rfl; have c1 := x0.cell 1 rfl; have c2 := x0.cell 2 rfl; have c3 := x0.cell 3 rfl; have c4 := x0.cell 4 rfl
  go_wp2_with fail
  refine (hip _ hb).mono ?_
  rintro e Vn ⟨rfl, hb1⟩
  replace hb := hb.trans (hb1.mono hb.size)
  replace x0 := x0.below hb1
  clear hb1 c0 c1 c2 c3 c4
  have c0 := x0.cell 0 rfl; have c1 := x0.cell 1 rfl; have c2 := x0.cell 2 rfl; have c3 := x0.cell 3 rfl; have c4 := x0.cell 4 rfl
  go_wp2
  clear c0 c1 c2 c3 c4 hck hip
  have hws : w.heap.size + 1 ≤ Vn.heap.size := x0.lt
  go_loopw [4, 8] (fun v4 v8 wr => ∃ (k : Nat) (a : Option Addr) (c : Nat), k ≤ n ∧ v8 = .int .i64 (k : Int) ∧ v4 = .slice a k c ∧ wr.ownsRow (w.heap.size + 1) 3 1 (.slice a k c) k ((eL k).map (Value.int .i64)) ∧ Bx wr w.heap.size #[.slice ab X.bs.length cb, .slice ast X.st.length cs, .slice ae X.er.length ce, .slice ak X.ks.length ck, .int .i64 X.ch] 26 ∧ w.heap.size + 1 ≤ wr.heap.size ∧ Below w.heap.size w wr) (fun _ v8 _ => n - (intOf v8).toNat)
  case atStart => exact ⟨0, none, 0, Nat.zero_le _, rfl, rfl, by
    have : eL 0 = [] := List.eq_nil_of_length_eq_zero (HX.out.2.2.1 0)
    rw [this]; exact World.ownsRow_nil _ _ _ _, x0, hws, hb⟩
  case round =>
    clear x0 hb hws
    obtain ⟨k, a, c, hk, rfl, rfl, hown, x0, hws, hb⟩ := hrel
    obtain ⟨wo, rfl⟩ : ∃ wo : World, wo = wr := ⟨_, rfl⟩
    by_cases hlt : k < n
    · have hkP : k < P.length := by rw [← HN.out]; exact hlt
      obtain ⟨b, off, a', c', hap, hbl, _, _⟩ := (hgP _ (Below.refl _ w)).at (k := k) hkP
      obtain ⟨b', off', a2, c2, hap', hbl', hc, hI⟩ := (hgP _ hb).at (k := k) hkP
      rw [hap] at hap'
      cases hap'
      subst hap
      have hei := fun V h h2 => HX.out.1 k V a2 c2 hkP h h2
      have hsn := HX.out.2.2.2 k
      have hbd : ∀ y ∈ eL (k + 1), 0 ≤ y ∧ y ≤ 6000 := HX.out.2.1 (k + 1)
      have HS := hid hsn
      clear hsn
      obtain ⟨L, hL⟩ : ∃ L, L = P.getD k [] := ⟨_, rfl⟩
      rw [← hL] at hei hc hI
      obtain ⟨y, hy⟩ : ∃ y, y = eB k := ⟨_, rfl⟩
      rw [← hy] at hei
      have HY := hid hy
      clear hL hy hbd
      have hkI : (k : Int) < n := by omega
      have hk0 : (0 : Int) ≤ (k : Int) := by omega
      have hk3 : k < 3 := by omega
      have hge := own_ge2 hown
      go_upto_region 9 with fail
      have hbd := (Below.refl wo.heap.size wo).drew
      have hwo := hb.size
      have S0 := And.intro (x0.below hbd) (Below.keep hbd hc)
      replace hb := hb.trans (hbd.mono hwo)
      replace hown := own_below2 hown hbd
      replace hI := hI.below hbd (Nat.le_refl _)
      replace hws : w.heap.size + 1 ≤ wo.drew.heap.size := Nat.le_trans hws hbd.size
      clear hbd x0 hc hwo
      refine wp_region_head 10 (fun w' => Bx w' w.heap.size #[.slice ab X.bs.length cb, .slice ast X.st.length cs, .slice ae X.er.length ce, .slice ak X.ks.length ck, .int .i64 X.ch] 26 ∧ w'.cell? ⟨b, off + k, none⟩ = some (.slice a2 L.length c2)) (by kernel_rfl) rfl ?_
      obtain ⟨Y0, hY0⟩ : ∃ Y, Y = wo.drew := ⟨_, rfl⟩
      rw [← hY0] at S0 hb hown hI hws ⊢
      clear hY0
      refine HeadAt.take (i := 0) (.slice a k c) rfl (by kernel_rfl) (.inl ⟨rfl, fun _ _ => by simp [go_sem]⟩) S0 ?_
      (try simp only [Act.put, List.getElem_toArray, List.getElem_cons_succ, List.getElem_cons_zero, List.setIfInBounds_toArray, List.set_cons_succ, List.set_cons_zero])
      refine HeadAt.take (i := 1) (.agg #[.slice ab X.bs.length cb, .slice ast X.st.length cs, .slice ae X.er.length ce, .slice ak X.ks.length ck, .int .i64 X.ch]) rfl (by kernel_rfl) (.inl ⟨rfl, fun w' z => ?_⟩) S0 ?_
      · (have z0 := z.1.cell 0 rfl; have z1 := z.1.cell 1 rfl; have z2 := z.1.cell 2 rfl; have z3 := z.1.cell 3 rfl; have z4 := z.1.cell 4 rfl; simp [go_sem, z0, z1, z2, z3, z4])
      refine HeadAt.take (i := 2) (.int .i64 (k : Int)) rfl (by kernel_rfl) (.inl ⟨rfl, fun _ _ => by simp [go_sem]⟩) S0 ?_
      refine HeadAt.take (i := 3) (.slice (some ⟨b, off, none⟩) n cp) rfl (by kernel_rfl) (.inl ⟨rfl, fun _ _ => by simp [go_sem]⟩) S0 ?_
      refine HeadAt.take (i := 4) (.int .i64 (k : Int)) rfl (by kernel_rfl) (.inl ⟨rfl, fun _ _ => by simp [go_sem]⟩) S0 ?_
      (try simp only [Act.put, List.getElem_toArray, List.getElem_cons_succ, List.getElem_cons_zero, List.setIfInBounds_toArray, List.set_cons_succ, List.set_cons_zero])
      refine HeadAt.take (i := 5) (.pointer (some ⟨b, off + k, none⟩)) rfl (by kernel_rfl) (.inl ⟨rfl, fun w' z => ?_⟩) S0 ?_
      · (simp [go_sem, hkI, hk0])
      (try simp only [Act.put, List.getElem_toArray, List.getElem_cons_succ, List.getElem_cons_zero, List.setIfInBounds_toArray, List.set_cons_succ, List.set_cons_zero])
      refine HeadAt.take (i := 6) (.slice a2 L.length c2) rfl (by kernel_rfl) (.inl ⟨rfl, fun w' z => ?_⟩) S0 ?_
      · (simp [go_sem, z.2])
      (try simp only [Act.put, List.getElem_toArray, List.getElem_cons_succ, List.getElem_cons_zero, List.setIfInBounds_toArray, List.set_cons_succ, List.set_cons_zero])
      refine HeadAt.one (i := 7) rfl (by kernel_rfl) ?_
      generalize hK : Upto _ _ = K0
      (try simp only [Act.put, List.getElem_toArray, List.getElem_cons_succ, List.getElem_cons_zero, List.setIfInBounds_toArray, List.set_cons_succ, List.set_cons_zero])
      go_wp2_with fail
      refine (hei _ hb hI).mono ?_
      rintro e V1 ⟨rfl, hb1⟩
      replace S0 := And.intro (S0.1.below hb1) (Below.keep hb1 S0.2)
      have hs1 := hb.size
      replace hb := hb.trans (hb1.mono hs1)
      replace hown := own_below2 hown hb1
      replace hws : w.heap.size + 1 ≤ V1.heap.size := Nat.le_trans hws hb1.size
      clear hb1 hei hI hs1
      go_wp2_with fail
      subst hK
      refine ⟨S0, ?_⟩
      (try simp only [Act.put, List.getElem_toArray, List.getElem_cons_succ, List.getElem_cons_zero, List.setIfInBounds_toArray, List.set_cons_succ, List.set_cons_zero])
      have hbA := below_one (w := V1) (.cells #[.int .i64 y] 3)
      have S1 := And.intro (S0.1.below hbA) (Below.keep hbA S0.2)
      have hcl := Cls.of_bx (Bx.new V1 #[.int .i64 y] 3)
      have hownA := own_below2 hown hbA
      have hs1 := hb.size
      have hbB := hb.trans (hbA.mono hs1)
      refine HeadAt.one (i := 8) rfl (by kernel_rfl) ?_
      generalize hK : Upto _ _ = K0
      (try simp only [Act.put, List.getElem_toArray, List.getElem_cons_succ, List.getElem_cons_zero, List.setIfInBounds_toArray, List.set_cons_succ, List.set_cons_zero])
      go_wp2_with fail
      subst hK
      refine ⟨S1, ?_⟩
      (try simp only [Act.put, List.getElem_toArray, List.getElem_cons_succ, List.getElem_cons_zero, List.setIfInBounds_toArray, List.set_cons_succ, List.set_cons_zero])
      refine HeadAt.one (i := 9) rfl (by kernel_rfl) ?_
      generalize hK : Upto _ _ = K0
      (try simp only [Act.put, List.getElem_toArray, List.getElem_cons_succ, List.getElem_cons_zero, List.setIfInBounds_toArray, List.set_cons_succ, List.set_cons_zero])
      go_wp2_with (at_builtin; go_loud (refine wpList_appAt rfl (.tmp 24) (.tmp 32) 23 rfl (w.heap.size + 1) 3 j0 (.int .i64 0) 1 8 under23 hj jz0 jz1 jz2 rfl (by decide) (.slice a k c) k _ rfl hownA (some ⟨V1.heap.size, 0, none⟩) 1 1 [.int .i64 y] rfl rfl hcl (ints_oneCell .i64 [y]) (by unfold maxLen; omega) (by omega) (by simp; omega) ?_); intro v3 W3 hown3 hg3 hat)
      obtain ⟨a3, c3, rfl⟩ := own_slice2 hown3
      have S2 := And.intro (S1.1.gb hg3 (fun q hq => by have := hge q hq; omega)) (cell_gro S1.2 hg3 (fun q hq => by have := hge q hq; show b ≠ q; omega))
      have hb3 := hbB.grown hg3 hbB.size (fun q hq => by have := hge q hq; omega)
      have hsz3 := hg3.size
      have hr3 : W3.ownsRow (w.heap.size + 1) 3 1 (.slice a3 (k + 1) c3) (k + 1) ((eL (k + 1)).map (Value.int .i64)) := by
        rw [HS.out, List.map_append, ← HY.out]; exact hown3
      have hws3 : w.heap.size + 1 ≤ W3.heap.size := by simp at hsz3; omega
      have HR := hid (And.intro hr3 (And.intro hb3 hws3))
      clear hr3 hb3 hown3 hg3 hat hcl hownA hown S0 S1 hbA hbB hb hsz3 hws3
      subst hK
      refine ⟨S2, ?_⟩
      (try simp only [Act.put, List.getElem_toArray, List.getElem_cons_succ, List.getElem_cons_zero, List.setIfInBounds_toArray, List.set_cons_succ, List.set_cons_zero])
      refine HeadAt.done (by kernel_rfl) ?_
      (try simp only [Act.put, List.drop_succ_cons, List.drop_zero, List.getElem_toArray, List.getElem_cons_succ, List.getElem_cons_zero])
      go_wp2_with fail
      refine NoPanic.normal ?_
      obtain ⟨hr3, hb3, hws3⟩ := HR.out
      have x0' := S2.1
      clear S2
      go_wp2
      go_roundw
      case rel => exact ⟨k + 1, a3, c3, by omega, by simp, rfl, hr3, x0', hws3, hb3⟩
      case measure => simp [intOf]; omega
    · obtain rfl : k = n := by omega
      have c0 := x0.cell 0 rfl; have c1 := x0.cell 1 rfl; have c2 := x0.cell 2 rfl; have c3 := x0.cell 3 rfl; have c4 := x0.cell 4 rfl
      have hll := HX.out.2.2.1 k
      have hle := HX.out.2.1 k
      clear HX
      go_wp2_with fail
      refine (hea _ hb).mono ?_
      rintro e Vn ⟨rfl, hb1⟩
      have hown' := own_below2 hown hb1
      replace hb := hb.trans (hb1.mono hb.size)
      clear hb1 c0 c1 c2 c3 c4 x0
      have HO := hid hown'
      clear hown' hown
      go_wp2
      go_ret3
      have hown' := HO.out
      rw [← hll] at hown'
      obtain ⟨a3, c3, e3, hI⟩ := Ints.of_own (by rw [hll] at hown' ⊢; exact hown') (by omega) (fun x hx => by have := hle x hx; omega)
      rw [hll] at e3
      cases e3
      rw [HNN'.out]
      exact ⟨hb, a, c, rfl, hI⟩
end Go.Proofs.Ytipdohpbilabiaa
