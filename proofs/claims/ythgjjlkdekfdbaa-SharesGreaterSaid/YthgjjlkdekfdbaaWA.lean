import Derived.Test.YthgjjlkdekfdbaaRA
import Derived.Test.YthgjjlkdekfdbaaM3
/-! SharesGreater. -/
namespace Go.Proofs.Ythgjjlkdekfdbaa
set_option linter.unusedSimpArgs false
set_option linter.unusedVariables false
open Go Go.RowKit

set_option maxRecDepth 100000 in
set_option maxHeartbeats 4000000 in
/-- Where the guard says no. -/
theorem Greater_bad (ac : Option Addr) (cc : Nat) (cs : List Cl) (L : Int) (t m : Int) (w : World) (hS : ShIn w ac cs) (hbad : (shB cs L && cenB t && cenB m && cenB (t + m)) = false) : Calls Try.prog 8 #[.agg #[.slice ac cs.length cc, .int .i64 L], .int .i64 t, .int .i64 m] w fun e w' => e = .returned (.bool true) ∧ Below w.heap.size w w' := by
  obtain ⟨W, hW, hb, _, x0⟩ := boxes1 w #[.slice ac cs.length cc, .int .i64 L] 24
  have hS1 := hS.below hb (Nat.le_refl _)
  have h0 := isShare_any ac cc cs L W hS1.l hS1.c
  have h1 := fun V => IsCents_any t V
  have h2 := fun V => IsCents_any m V
  have h3 := fun V => IsCents_any (t + m) V
  have hwk := fun V => works_any V
  have hb1 : cenB t = true → cenB m = true → IntKind.i64.wrap (t + m) = t + m := fun a b => by
    rw [cenB_iff] at a b
    exact IntWalk.i64_in _ (by omega)
  have c0 := x0.cell 0 rfl; have c1 := x0.cell 1 rfl
  clear hS hS1 x0
  generalize shB cs L = r at *
  generalize cenB t = a at *
  generalize cenB m = b at *
  generalize cenB (t + m) = d at *
  go_enter Try.func8, Try.ntmps8
  cases r
  · clear hbad hb1
    go_wp2_with fail
    refine h0.mono ?_
    rintro e V1 ⟨rfl, hb1⟩
    replace hb := hb.trans (hb1.mono hb.size)
    clear c0 c1 hb1 h0
    go_wp2_with fail
    refine (hwk _).mono ?_
    rintro e V2 ⟨rfl, hb1⟩
    replace hb := hb.trans (hb1.mono hb.size)
    go_wp2
    go_ret
    exact ⟨rfl, hb⟩
  · cases a
    · clear hbad hb1
      go_wp2_with fail
      refine h0.mono ?_
      rintro e V1 ⟨rfl, hb1⟩
      replace hb := hb.trans (hb1.mono hb.size)
      clear c0 c1 hb1 h0
      go_wp2_with fail
      refine (h1 _).mono ?_
      rintro e V2 ⟨rfl, rfl⟩
      go_wp2_with fail
      refine (hwk _).mono ?_
      rintro e V2 ⟨rfl, hb1⟩
      replace hb := hb.trans (hb1.mono hb.size)
      go_wp2
      go_ret
      exact ⟨rfl, hb⟩
    · cases b
      · clear hbad hb1
        go_wp2_with fail
        refine h0.mono ?_
        rintro e V1 ⟨rfl, hb1⟩
        replace hb := hb.trans (hb1.mono hb.size)
        clear c0 c1 hb1 h0
        go_wp2_with fail
        refine (h1 _).mono ?_
        rintro e V2 ⟨rfl, rfl⟩
        go_wp2_with fail
        refine (h2 _).mono ?_
        rintro e V2 ⟨rfl, rfl⟩
        go_wp2_with fail
        refine (hwk _).mono ?_
        rintro e V2 ⟨rfl, hb1⟩
        replace hb := hb.trans (hb1.mono hb.size)
        go_wp2
        go_ret
        exact ⟨rfl, hb⟩
      · have ew := hb1 rfl rfl
        obtain rfl : d = false := by simpa using hbad
        clear hbad hb1
        go_wp2_with fail
        refine h0.mono ?_
        rintro e V1 ⟨rfl, hb1⟩
        replace hb := hb.trans (hb1.mono hb.size)
        clear c0 c1 hb1 h0
        go_wp2_with fail
        refine (h1 _).mono ?_
        rintro e V2 ⟨rfl, rfl⟩
        go_wp2_with fail
        refine (h2 _).mono ?_
        rintro e V2 ⟨rfl, rfl⟩
        go_wp2_with fail
        refine (h3 _).mono ?_
        rintro e V2 ⟨rfl, rfl⟩
        go_wp2_with fail
        refine (hwk _).mono ?_
        rintro e V2 ⟨rfl, hb1⟩
        replace hb := hb.trans (hb1.mono hb.size)
        go_wp2
        go_ret
        exact ⟨rfl, hb⟩

set_option maxRecDepth 100000 in
set_option maxHeartbeats 6000000 in
theorem Greater_ok (ac : Option Addr) (cc : Nat) (cs : List Cl) (L : Int) (t m : Int) (w : World) (hX : Clz w ac cs) (hs : shB cs L = true) (ht : cenB t = true) (hm : cenB m = true) (htm : cenB (t + m) = true) : Calls Try.prog 8 #[.agg #[.slice ac cs.length cc, .int .i64 L], .int .i64 t, .int .i64 m] w fun e w' => e = .returned (.bool true) ∧ Below w.heap.size w w' := by
  obtain ⟨W, hW, hb, _, x0⟩ := boxes1 w #[.slice ac cs.length cc, .int .i64 L] 24
  have h0 := isShare_any ac cc cs L W (by have := hX.len; omega) (fun _ => hX.below hb (Nat.le_refl _))
  rw [hs] at h0
  have h1 := fun V => IsCents_any t V
  have h2 := fun V => IsCents_any m V
  have h3 := fun V => IsCents_any (t + m) V
  rw [ht] at h1; rw [hm] at h2; rw [htm] at h3
  have hwk := fun V => works_any V
  obtain ⟨h5, hok, hL⟩ := shB_ok hs
  have hoa := Ok.of hs ht
  have hob := Ok.of hs htm
  obtain ⟨u, hu⟩ : ∃ u, u = settledW L cs t := ⟨_, rfl⟩
  obtain ⟨v, hv⟩ : ∃ v, v = settledW L cs (t + m) := ⟨_, rfl⟩
  have hwa := fun (V : World) hh => Week_ok ac cc cs L t V hh hs ht u hu
  have hwb := fun (V : World) hh => Week_ok ac cc cs L (t + m) V hh hs htm v hv
  have hi1 : Inv t L u := by rw [hu]; exact hoa.fin
  have hi2 : Inv (t + m) L v := by rw [hv]; exact hob.fin
  have hz1 : u.rest = 0 := by rw [hu]; exact hoa.inv.fin.2
  have hz2 : v.rest = 0 := by rw [hv]; exact hob.inv.fin.2
  have hsa := fun (V : World) => isSplit_ok u t L hi1 hz1 hoa.t.2 V
  have hsb := fun (V : World) => isSplit_ok v (t + m) L hi2 hz2 hob.t.2 V
  rw [cenB_iff] at ht hm htm
  have hgr : cntR cs ≤ 1 → u.ow ≤ v.ow := fun hc => by rw [hu, hv]; exact greater hok hL.1 ht.1 hm.1 hc
  have ew : IntKind.i64.wrap (t + m) = t + m := IntWalk.i64_in _ (by omega)
  have hcl := cntR_le cs
  clear hs hi1 hi2 hz1 hz2 hoa hob hu hv hok hL ht hm htm
  have c0 := x0.cell 0 rfl; have c1 := x0.cell 1 rfl
  obtain ⟨n, hn⟩ : ∃ n, n = cs.length := ⟨_, rfl⟩
  rw [← hn] at h0 hwa hwb x0 c0 hcl h5 hW ⊢
  have HN := hid hn
  clear hn
  go_enter Try.func8, Try.ntmps8
  go_wp2_with fail
  refine h0.mono ?_
  rintro e V1 ⟨rfl, hb1⟩
  replace x0 := x0.below hb1
  replace hb := hb.trans (hb1.mono hb.size)
  clear c0 c1 hb1 h0 hW
  go_wp2_with fail
  refine (h1 _).mono ?_
  rintro e V2 ⟨rfl, rfl⟩
  go_wp2_with fail
  refine (h2 _).mono ?_
  rintro e V2 ⟨rfl, rfl⟩
  go_wp2_with fail
  refine (h3 _).mono ?_
  rintro e V2 ⟨rfl, rfl⟩
  clear h1 h2 h3
  go_wp2
  go_loopw [7, 8, 9] (fun v7 v8 v9 wr => ∃ k c : Nat, k ≤ n ∧ c ≤ k ∧ v7 = .int .i64 (c : Int) ∧ v8 = .int .i64 (k : Int) ∧ Hid (c = cntR (cs.take k)) ∧ Bx wr w.heap.size #[.slice ac n cc, .int .i64 L] 24 ∧ Below w.heap.size w wr) (fun _ v8 _ _ => n - (intOf v8).toNat)
  case atStart => exact ⟨0, 0, Nat.zero_le _, Nat.zero_le _, rfl, rfl, hid rfl, x0, hb⟩
  case round =>
    clear x0 hb
    obtain ⟨k, c, hk, hck, rfl, rfl, HC, x0, hb⟩ := hrel
    have c0 := x0.cell 0 rfl; have c1 := x0.cell 1 rfl
    by_cases hlt : k < n
    · obtain ⟨b, off, x, rfl, hbl, ⟨q0, _, _, _⟩, _, _, _, _, htk⟩ := (hX.below hb (Nat.le_refl _)).at (k := k) (by rw [← HN.out]; exact hlt)
      have hkI : (k : Int) < n := by omega
      have hk0 : (0 : Int) ≤ (k : Int) := by omega
      have hcs := cntR_snoc (cs.take k) x
      rw [← htk.out, ← HC.out] at hcs
      have e1 : IntKind.i64.wrap ((c : Int) + 1) = (c : Int) + 1 := IntWalk.i64_in _ (by omega)
      by_cases k3 : x.k = 3
      · have hr : rndB x = true := by simp [rndB, k3]
        rw [hr, if_pos rfl] at hcs
        have HC2 := hid hcs.symm
        have kB : (x.k == 3) = true := by simp [k3]
        clear hr hcs htk HC k3
        go_wp2
        go_roundw
        case rel => exact ⟨k + 1, c + 1, by omega, by omega, by simp, by simp, HC2, x0, hb⟩
        case measure => simp [intOf]; omega
      · by_cases k4 : x.k = 4
        · have hr : rndB x = true := by simp [rndB, k4]
          rw [hr, if_pos rfl] at hcs
          have HC2 := hid hcs.symm
          have kB : (x.k == 3) = false := by simp [k3]
          have kB2 : (x.k == 4) = true := by simp [k4]
          clear hr hcs htk HC k3 k4
          go_wp2
          go_roundw
          case rel => exact ⟨k + 1, c + 1, by omega, by omega, by simp, by simp, HC2, x0, hb⟩
          case measure => simp [intOf]; omega
        · have hr : rndB x = false := by simp [rndB, k3, k4]
          rw [hr, if_neg (by simp), Nat.add_zero] at hcs
          have HC2 := hid hcs.symm
          have kB : (x.k == 3) = false := by simp [k3]
          have kB2 : (x.k == 4) = false := by simp [k4]
          clear hr hcs htk HC k3 k4
          go_wp2
          go_roundw
          case rel => exact ⟨k + 1, c, by omega, by omega, rfl, by simp, HC2, x0, hb⟩
          case measure => simp [intOf]; omega
    · have hkn : k = n := by omega
      have hcc : c = cntR cs := by rw [HC.out, hkn, HN.out, List.take_length]
      rw [← hcc] at hgr
      have hkI : ¬ (k : Int) < n := by omega
      have hX1 := hX.below hb (Nat.le_refl _)
      clear hkn hcc HC hX
      go_wp2_with fail
      refine (hwa _ hX1).mono ?_
      rintro e V3 ⟨rfl, hb1⟩
      replace x0 := x0.below hb1
      replace hX1 := hX1.below hb1 (Nat.le_refl _)
      replace hb := hb.trans (hb1.mono hb.size)
      clear hb1 c0 c1 hwa
      have hba := below_one (w := V3) (.cells #[.int .i64 u.op, .int .i64 u.ow, .int .i64 u.rp] 33)
      have HX := hid (And.intro (x0.below hba) (And.intro (hX1.below hba (Nat.le_refl _)) (And.intro (hb.trans (hba.mono hb.size)) (Bx.new V3 #[.int .i64 u.op, .int .i64 u.ow, .int .i64 u.rp] 33))))
      clear hba x0 hX1 hb
      go_upto_region 11 with fail
      obtain ⟨x0, hX1, hb, x1⟩ := HX.out
      clear HX
      generalize V3.heap.size = s1 at *
      generalize World.alloc _ _ = V4 at *
      have c0 := x0.cell 0 rfl; have c1 := x0.cell 1 rfl
      go_wp2_with fail
      refine (hwb _ hX1).mono ?_
      rintro e V5 ⟨rfl, hb1⟩
      replace x0 := x0.below hb1
      replace x1 := x1.below hb1
      replace hb := hb.trans (hb1.mono hb.size)
      clear hb1 c0 c1 hwb hX1
      have hba := below_one (w := V5) (.cells #[.int .i64 v.op, .int .i64 v.ow, .int .i64 v.rp] 33)
      have HX := hid (And.intro (x0.below hba) (And.intro (x1.below hba) (And.intro (hb.trans (hba.mono hb.size)) (Bx.new V5 #[.int .i64 v.op, .int .i64 v.ow, .int .i64 v.rp] 33))))
      clear hba x0 x1 hb
      go_upto_region 12 with fail
      obtain ⟨x0, x1, hb, x2⟩ := HX.out
      clear HX
      generalize V5.heap.size = s2 at *
      generalize World.alloc _ _ = V6 at *
      have c0 := x0.cell 0 rfl; have c1 := x0.cell 1 rfl
      have d0 := x1.cell 0 rfl; have d1 := x1.cell 1 rfl; have d2 := x1.cell 2 rfl
      go_wp2_with fail
      refine (hsa _).mono ?_
      rintro e V7 ⟨rfl, hb1⟩
      replace x0 := x0.below hb1
      replace x1 := x1.below hb1
      replace x2 := x2.below hb1
      replace hb := hb.trans (hb1.mono hb.size)
      clear hb1 c0 c1 d0 d1 d2 hsa
      have c0 := x0.cell 0 rfl; have c1 := x0.cell 1 rfl
      have d0 := x2.cell 0 rfl; have d1 := x2.cell 1 rfl; have d2 := x2.cell 2 rfl
      go_wp2_with fail
      refine (hsb _).mono ?_
      rintro e V8 ⟨rfl, hb1⟩
      replace x1 := x1.below hb1
      replace x2 := x2.below hb1
      replace hb := hb.trans (hb1.mono hb.size)
      clear hb1 c0 c1 d0 d1 d2 hsb x0
      have c0 := x1.cell 0 rfl; have c1 := x1.cell 1 rfl; have c2 := x1.cell 2 rfl
      have d0 := x2.cell 0 rfl; have d1 := x2.cell 1 rfl; have d2 := x2.cell 2 rfl
      by_cases h1 : 1 < c
      · have h1I : (1 : Int) < (c : Int) := by omega
        clear hgr
        go_wp2_with fail
        refine (hwk _).mono ?_
        rintro e V9 ⟨rfl, hb1⟩
        replace hb := hb.trans (hb1.mono hb.size)
        clear c0 c1 c2 d0 d1 d2
        go_wp2
        go_ret
        exact ⟨rfl, hb⟩
      · have h1I : (c : Int) ≤ 1 := by omega
        have hge := hgr (by omega)
        clear hgr
        go_wp2_with fail
        refine (hwk _).mono ?_
        rintro e V9 ⟨rfl, hb1⟩
        replace hb := hb.trans (hb1.mono hb.size)
        clear c0 c1 c2 d0 d1 d2
        go_wp2
        go_ret
        exact ⟨rfl, hb⟩
theorem sharesGreater_any (ac : Option Addr) (cc : Nat) (cs : List Cl) (L : Int) (t m : Int) (w : World) (hS : ShIn w ac cs) : Calls Try.prog 8 #[.agg #[.slice ac cs.length cc, .int .i64 L], .int .i64 t, .int .i64 m] w fun e w' => e = .returned (.bool true) ∧ Below w.heap.size w w' := by
  cases h : (shB cs L && cenB t && cenB m && cenB (t + m))
  · exact Greater_bad ac cc cs L t m w hS h
  · simp only [Bool.and_eq_true] at h
    exact Greater_ok ac cc cs L t m w (hS.c (by have := (shB_ok h.1.1.1).1; omega)) h.1.1.1 h.1.1.2 h.1.2 h.2
end Go.Proofs.Ythgjjlkdekfdbaa
