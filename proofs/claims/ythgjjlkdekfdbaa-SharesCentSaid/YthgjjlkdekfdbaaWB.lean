import Derived.Test.YthgjjlkdekfdbaaRA
import Derived.Test.YthgjjlkdekfdbaaM4
/-! SharesCent. -/
namespace Go.Proofs.Ythgjjlkdekfdbaa
set_option linter.unusedSimpArgs false
set_option linter.unusedVariables false
open Go Go.RowKit

set_option maxRecDepth 100000 in
theorem IsOwners_any (x : Cl) (w : World) : Calls Try.prog 41 #[.agg #[.int .i64 x.k, .int .i64 x.c, .int .i64 x.p, .int .i64 x.m]] w fun e w' => e = .returned (.bool (decide (3 ≤ x.k))) ∧ Below w.heap.size w w' := by
  obtain ⟨W, hW, hb, _, x0⟩ := boxes1 w #[.int .i64 x.k, .int .i64 x.c, .int .i64 x.p, .int .i64 x.m] 56
  have c0 := x0.cell 0 rfl; have c1 := x0.cell 1 rfl; have c2 := x0.cell 2 rfl; have c3 := x0.cell 3 rfl
  obtain ⟨r, hr⟩ : ∃ r, r = decide (3 ≤ x.k) := ⟨_, rfl⟩
  rw [← hr]
  by_cases h : 3 ≤ x.k
  · have HR := hid (show r = true by rw [hr]; exact decide_eq_true h)
    clear hr
    go_enter Try.func41, Try.ntmps41
    go_wp2
    go_ret
    exact ⟨ret_bool (by rw [HR.out]), hb⟩
  · have HR := hid (show r = false by rw [hr]; exact decide_eq_false h)
    have h' : x.k < 3 := by omega
    clear hr
    go_enter Try.func41, Try.ntmps41
    go_wp2
    go_ret
    exact ⟨ret_bool (by rw [HR.out]), hb⟩

set_option maxRecDepth 100000 in
set_option maxHeartbeats 6000000 in
theorem Cent_bad (ac : Option Addr) (cc : Nat) (cs : List Cl) (L : Int) (t gi z : Int) (w : World) (hS : ShIn w ac cc cs) (hbad : (shB cs L && cenB t && cenB gi) = false) : Calls Try.prog 7 #[.agg #[.slice ac cs.length cc, .int .i64 L], .agg #[.int .i64 t, .int .i64 gi, .int .i64 z]] w fun e w' => e = .returned (.bool true) ∧ Below w.heap.size w w' := by
  obtain ⟨W, hW, hb, _, x0, x1⟩ := boxes2 w #[.slice ac cs.length cc, .int .i64 L] 24 #[.int .i64 t, .int .i64 gi, .int .i64 z] 26
  have hS1 := hS.below hb (Nat.le_refl _)
  have h0 := isShare_any ac cc cs L W hS1.l hS1.cl
  have h1 := fun V => IsCents_any t V
  have h2 := fun V => IsCents_any gi V
  have hwk := fun V => works_any V
  clear hS hS1
  generalize shB cs L = r at *
  generalize cenB t = a at *
  generalize cenB gi = b at *
  have c0 := x0.cell 0 rfl; have c1 := x0.cell 1 rfl
  have d0 := x1.cell 0 rfl; have d1 := x1.cell 1 rfl; have d2 := x1.cell 2 rfl
  go_enter Try.func7, Try.ntmps7
  cases r
  · clear hbad
    go_wp2_with fail
    refine (h0).mono ?_
    rintro e Vc1 ⟨rfl, hb1⟩
    clear d0 d1 d2
    clear c0 c1
    replace x0 := x0.below hb1
    replace x1 := x1.below hb1
    replace hb := hb.trans (hb1.mono hb.size)
    clear hb1
    have c0 := x0.cell 0 rfl; have c1 := x0.cell 1 rfl
    have d0 := x1.cell 0 rfl; have d1 := x1.cell 1 rfl; have d2 := x1.cell 2 rfl
    go_wp2_with fail
    refine (hwk _).mono ?_
    rintro e Vw ⟨rfl, hbw9⟩
    clear d0 d1 d2
    clear c0 c1
    replace hb := hb.trans (hbw9.mono hb.size)
    go_wp2
    go_ret
    exact ⟨rfl, hb⟩
  · cases a
    · clear hbad
      go_wp2_with fail
      refine (h0).mono ?_
      rintro e Vc3 ⟨rfl, hb1⟩
      clear d0 d1 d2
      clear c0 c1
      replace x0 := x0.below hb1
      replace x1 := x1.below hb1
      replace hb := hb.trans (hb1.mono hb.size)
      clear hb1
      have c0 := x0.cell 0 rfl; have c1 := x0.cell 1 rfl
      have d0 := x1.cell 0 rfl; have d1 := x1.cell 1 rfl; have d2 := x1.cell 2 rfl
      go_wp2_with fail
      refine (h1 _).mono ?_
      rintro e Vc4 ⟨rfl, rfl⟩
      go_wp2_with fail
      refine (hwk _).mono ?_
      rintro e Vw ⟨rfl, hbw9⟩
      clear d0 d1 d2
      clear c0 c1
      replace hb := hb.trans (hbw9.mono hb.size)
      go_wp2
      go_ret
      exact ⟨rfl, hb⟩
    · obtain rfl : b = false := by simpa using hbad
      clear hbad
      go_wp2_with fail
      refine (h0).mono ?_
      rintro e Vc6 ⟨rfl, hb1⟩
      clear d0 d1 d2
      clear c0 c1
      replace x0 := x0.below hb1
      replace x1 := x1.below hb1
      replace hb := hb.trans (hb1.mono hb.size)
      clear hb1
      have c0 := x0.cell 0 rfl; have c1 := x0.cell 1 rfl
      have d0 := x1.cell 0 rfl; have d1 := x1.cell 1 rfl; have d2 := x1.cell 2 rfl
      go_wp2_with fail
      refine (h1 _).mono ?_
      rintro e Vc7 ⟨rfl, rfl⟩
      go_wp2_with fail
      refine (h2 _).mono ?_
      rintro e Vc8 ⟨rfl, rfl⟩
      go_wp2_with fail
      refine (hwk _).mono ?_
      rintro e Vw ⟨rfl, hbw9⟩
      clear d0 d1 d2
      clear c0 c1
      replace hb := hb.trans (hbw9.mono hb.size)
      go_wp2
      go_ret
      exact ⟨rfl, hb⟩
set_option maxRecDepth 100000 in
set_option maxHeartbeats 6000000 in
theorem Cent_ok (ac : Option Addr) (cc : Nat) (cs : List Cl) (L : Int) (t gi z : Int) (w : World) (hX : Clz w ac cs) (hcc : cs.length ≤ cc) (hs : shB cs L = true) (ht : cenB t = true) (hg : cenB gi = true) : Calls Try.prog 7 #[.agg #[.slice ac cs.length cc, .int .i64 L], .agg #[.int .i64 t, .int .i64 gi, .int .i64 z]] w fun e w' => e = .returned (.bool true) ∧ Below w.heap.size w w' := by
  obtain ⟨W, hW, hb, _, x0, x1⟩ := boxes2 w #[.slice ac cs.length cc, .int .i64 L] 24 #[.int .i64 t, .int .i64 gi, .int .i64 z] 26
  have h0 := isShare_any ac cc cs L W (by have := hX.len; omega) (fun _ => hX.below hb (Nat.le_refl _))
  rw [hs] at h0
  have h1 := fun V => IsCents_any t V
  have h2 := fun V => IsCents_any gi V
  rw [ht] at h1; rw [hg] at h2
  have hwk := fun V => works_any V
  obtain ⟨h5, hok, hL⟩ := shB_ok hs
  have ho := Ok.of hs ht
  have hg0 := cenB_iff.1 hg
  obtain ⟨u, hu⟩ : ∃ u, u = settledW L cs t := ⟨_, rfl⟩
  obtain ⟨v, hv⟩ : ∃ v, v = giftW L cs t gi := ⟨_, rfl⟩
  have hwa := fun (V : World) hh => Week_ok ac cc cs L t V hh hs ht u hu
  have hwb := fun (V : World) hh => Gift_ok ac cc cs L t gi V hh hs ht hg v hv
  have hgi := gift_inv ho hg0.1
  rw [← hv] at hgi
  obtain ⟨hi2, hz2, hmin⟩ := hgi
  have hi1 : Inv t L u := by rw [hu]; exact ho.fin
  have hz1 : u.rest = 0 := by rw [hu]; exact ho.inv.fin.2
  have hsa := fun (V : World) => isSplit_ok u t L hi1 hz1 ho.t.2 V
  have hsb := fun (V : World) => isSplit_ok v t L hi2 hz2 ho.t.2 V
  have hgc := fun (j : Nat) (hj : j < cs.length) (V : World) hh => Gives_ok ac cc cs L t j V hh hs ht hj hcc (j : Int) rfl
  have hpi := fun k => preW_inv ho k
  have hps := fun k x hx => preW_succ (L := L) (cs := cs) (t := t) (k := k) (x := x) hx
  have hpa := preW_all L cs t
  rw [← hu] at hpa
  have htt := ho.t; have hLL := ho.L
  have hp0 : preW L cs t 0 = beginW L t := rfl
  have hvb := hi2.wb ho.t.2 ho.L.2
  have hub := hi1.wb ho.t.2 ho.L.2
  have hvo := hvb.ow; have huo := hub.ow; have hur := hub.rp
  clear hs hi1 hi2 hz1 hz2 hu hv ht hg hvb hub ho
  obtain ⟨n, hn⟩ : ∃ n, n = cs.length := ⟨_, rfl⟩
  rw [← hn] at h0 hwa hwb x0 hW hgc hpa h5 hcc ⊢
  have HN := hid hn
  have HPA := hid hpa; have HP0 := hid hp0
  obtain ⟨G, hG⟩ : ∃ G, G = givesC L cs t := ⟨_, rfl⟩
  rw [← hG] at hgc hps
  clear hn hpa hG
  generalize preW L cs t = pw at *
  clear hp0
  have c0 := x0.cell 0 rfl; have c1 := x0.cell 1 rfl
  have d0 := x1.cell 0 rfl; have d1 := x1.cell 1 rfl; have d2 := x1.cell 2 rfl
  have hX1 := hX.below hb (Nat.le_refl _)
  go_enter Try.func7, Try.ntmps7
  go_wp2_with fail
  refine (h0).mono ?_
  rintro e Vc10 ⟨rfl, hb1⟩
  clear d0 d1 d2
  clear c0 c1
  replace x0 := x0.below hb1
  replace x1 := x1.below hb1
  replace hX1 := hX1.below hb1 (Nat.le_refl _)
  replace hb := hb.trans (hb1.mono hb.size)
  clear hb1 h0 hW
  have c0 := x0.cell 0 rfl; have c1 := x0.cell 1 rfl
  have d0 := x1.cell 0 rfl; have d1 := x1.cell 1 rfl; have d2 := x1.cell 2 rfl
  go_wp2_with fail
  refine (h1 _).mono ?_
  rintro e Vc11 ⟨rfl, rfl⟩
  clear h1
  go_wp2_with fail
  refine (h2 _).mono ?_
  rintro e Vc12 ⟨rfl, rfl⟩
  clear h2
  go_wp2_with fail
  refine (hwa _ hX1).mono ?_
  rintro e Vc13 ⟨rfl, hb1⟩
  clear d0 d1 d2
  clear c0 c1
  replace x0 := x0.below hb1
  replace x1 := x1.below hb1
  replace hX1 := hX1.below hb1 (Nat.le_refl _)
  replace hb := hb.trans (hb1.mono hb.size)
  clear hb1 hwa
  have c0 := x0.cell 0 rfl; have c1 := x0.cell 1 rfl
  have d0 := x1.cell 0 rfl; have d1 := x1.cell 1 rfl; have d2 := x1.cell 2 rfl
  have hba := below_one (w := Vc13) (.cells #[.int .i64 u.op, .int .i64 u.ow, .int .i64 u.rp] 33)
  have HXa := hid (And.intro (x0.below hba) (And.intro (x1.below hba) (And.intro (hX1.below hba (Nat.le_refl _)) (And.intro (hb.trans (hba.mono hb.size)) (Bx.new Vc13 #[.int .i64 u.op, .int .i64 u.ow, .int .i64 u.rp] 33)))))
  clear hba hb x0 x1 hX1
  go_upto_region 4 with fail
  clear d0 d1 d2
  clear c0 c1
  obtain ⟨x0, x1, hX1, hb, x2⟩ := HXa.out
  clear HXa
  generalize Vc13.heap.size = sa_x2 at *
  generalize World.alloc _ _ = Va14 at *
  have d0 := x1.cell 0 rfl; have d1 := x1.cell 1 rfl; have d2 := x1.cell 2 rfl
  have c0 := x0.cell 0 rfl; have c1 := x0.cell 1 rfl
  go_wp2_with fail
  refine (hwb _ hX1).mono ?_
  rintro e Vc15 ⟨rfl, hb1⟩
  clear d0 d1 d2
  clear c0 c1
  replace x0 := x0.below hb1
  replace x1 := x1.below hb1
  replace x2 := x2.below hb1
  replace hX1 := hX1.below hb1 (Nat.le_refl _)
  replace hb := hb.trans (hb1.mono hb.size)
  clear hb1 hwb
  have c0 := x0.cell 0 rfl; have c1 := x0.cell 1 rfl
  have d0 := x1.cell 0 rfl; have d1 := x1.cell 1 rfl; have d2 := x1.cell 2 rfl
  have hba := below_one (w := Vc15) (.cells #[.int .i64 v.op, .int .i64 v.ow, .int .i64 v.rp] 33)
  have HXa := hid (And.intro (x0.below hba) (And.intro (x1.below hba) (And.intro (x2.below hba) (And.intro (hX1.below hba (Nat.le_refl _)) (And.intro (hb.trans (hba.mono hb.size)) (Bx.new Vc15 #[.int .i64 v.op, .int .i64 v.ow, .int .i64 v.rp] 33))))))
  clear hba hb x0 x1 x2 hX1
  go_upto_region 5 with fail
  clear d0 d1 d2
  clear c0 c1
  obtain ⟨x0, x1, x2, hX1, hb, x3⟩ := HXa.out
  clear HXa
  generalize Vc15.heap.size = sa_x3 at *
  generalize World.alloc _ _ = Va16 at *
  have d0 := x1.cell 0 rfl; have d1 := x1.cell 1 rfl; have d2 := x1.cell 2 rfl
  have c0 := x0.cell 0 rfl; have c1 := x0.cell 1 rfl
  have k0 := x2.cell 0 rfl; have k1 := x2.cell 1 rfl; have k2 := x2.cell 2 rfl
  have m0 := x3.cell 0 rfl; have m1 := x3.cell 1 rfl; have m2 := x3.cell 2 rfl
  go_wp2_with fail
  refine (hsa _).mono ?_
  rintro e Vc17 ⟨rfl, hb1⟩
  clear d0 d1 d2
  clear k0 k1 k2
  clear m0 m1 m2
  clear c0 c1
  replace x0 := x0.below hb1
  replace x1 := x1.below hb1
  replace x2 := x2.below hb1
  replace x3 := x3.below hb1
  replace hX1 := hX1.below hb1 (Nat.le_refl _)
  replace hb := hb.trans (hb1.mono hb.size)
  clear hb1 hsa
  have c0 := x0.cell 0 rfl; have c1 := x0.cell 1 rfl
  have d0 := x1.cell 0 rfl; have d1 := x1.cell 1 rfl; have d2 := x1.cell 2 rfl
  have k0 := x2.cell 0 rfl; have k1 := x2.cell 1 rfl; have k2 := x2.cell 2 rfl
  have m0 := x3.cell 0 rfl; have m1 := x3.cell 1 rfl; have m2 := x3.cell 2 rfl
  go_wp2_with fail
  refine (hsb _).mono ?_
  rintro e Vc18 ⟨rfl, hb1⟩
  clear d0 d1 d2
  clear k0 k1 k2
  clear m0 m1 m2
  clear c0 c1
  replace x0 := x0.below hb1
  replace x1 := x1.below hb1
  replace x2 := x2.below hb1
  replace x3 := x3.below hb1
  replace hX1 := hX1.below hb1 (Nat.le_refl _)
  replace hb := hb.trans (hb1.mono hb.size)
  clear hb1 hsb
  have c0 := x0.cell 0 rfl; have c1 := x0.cell 1 rfl
  have d0 := x1.cell 0 rfl; have d1 := x1.cell 1 rfl; have d2 := x1.cell 2 rfl
  have k0 := x2.cell 0 rfl; have k1 := x2.cell 1 rfl; have k2 := x2.cell 2 rfl
  have m0 := x3.cell 0 rfl; have m1 := x3.cell 1 rfl; have m2 := x3.cell 2 rfl
  rcases Int.lt_or_le t gi with hmm | hmm
  · have hvm : t ≤ v.ow := by omega
    clear hmin
    go_upto_region 8 with fail
    clear m0 m1 m2
    clear x3
    clear d0 d1 d2
    clear k0 k1 k2
    clear c0 c1
    go_wp2
    clear hX1
    go_loopw [9, 10, 11, 12, 13, 14] (fun v9 v10 v11 v12 v13 v14 wr => ∃ (k : Nat) (al ow rp : Int), k ≤ n ∧ v9 = .int .i64 al ∧ v10 = .int .i64 ow ∧ v11 = .int .i64 rp ∧ v12 = .int .i64 (k : Int) ∧ Hid (al = t - (pw k).rest ∧ ow = (pw k).ow ∧ rp = (pw k).rp) ∧ Bx wr w.heap.size #[.slice ac n cc, .int .i64 L] 24 ∧ Bx wr (w.heap.size + 1) #[.int .i64 t, .int .i64 gi, .int .i64 z] 26 ∧ Bx wr sa_x2 #[.int .i64 u.op, .int .i64 u.ow, .int .i64 u.rp] 33 ∧ Below w.heap.size w wr) (fun _ _ _ v12 _ _ _ => n - (intOf v12).toNat)
    case atStart => exact ⟨0, 0, 0, 0, Nat.zero_le _, rfl, rfl, rfl, rfl, hid (by rw [HP0.out]; simp [beginW]), x0, x1, x2, hb⟩
    case round =>
      clear x0 x1 x2 hb
      obtain ⟨k, al, ow, rp, hk, rfl, rfl, rfl, rfl, HK, x0, x1, x2, hb⟩ := hrel
      have hX1 := hX.below hb (Nat.le_refl _)
      have hik := hpi k
      have c0 := x0.cell 0 rfl; have c1 := x0.cell 1 rfl
      have d0 := x1.cell 0 rfl; have d1 := x1.cell 1 rfl; have d2 := x1.cell 2 rfl
      by_cases hlt : k < n
      · obtain ⟨bq, off, x, rfl, hbl, ⟨q0, q1, q2, q3⟩, _, hmem, hgx, _, _⟩ := hX1.at (k := k) (by rw [← HN.out]; exact hlt)
        have hkI : (k : Int) < n := by omega
        have hk0 : (0 : Int) ≤ (k : Int) := by omega
        obtain ⟨hs1, hs2⟩ := hps k x hgx.out
        have hxo := hok x hmem
        obtain ⟨p1, p2, p3⟩ := step_parts (pw k) x hxo
        rw [← hs1, ← hs2] at p1 p2 p3
        have hgr := gives_rng hxo hik
        rw [← hs2] at hgr
        have hgk := hgc k hlt _ hX1
        have how := fun V => IsOwners_any x V
        obtain ⟨gk, hgkk⟩ : ∃ gk, gk = G k := ⟨_, rfl⟩
        rw [← hgkk] at hgk p1 p2 p3 hgr
        obtain ⟨hk1, hk2, hk3⟩ := HK.out
        have i1 := hik.op; have i2 := hik.ow; have i3 := hik.rp; have i4 := hik.rest; have i5 := hik.sum; have i6 := hik.le; have i7 := hik.loan; have i8 := hik.owed
        have e0 : IntKind.i64.wrap (t - al) = t - al := IntWalk.i64_in _ (by omega)
        have e1 : IntKind.i64.wrap (al + gk) = al + gk := IntWalk.i64_in _ (by omega)
        have e2 : IntKind.i64.wrap (ow + gk) = ow + gk := IntWalk.i64_in _ (by omega)
        have e3 : IntKind.i64.wrap (rp + gk) = rp + gk := IntWalk.i64_in _ (by omega)
        have g0 : 0 ≤ gk := hgr.1
        have g1 : gk ≤ t - al := by omega
        have q0' := q0; have hxk := hxo.1
        clear hs1 hs2 hgx hgkk hpi hps hgc hik i1 i2 i3 i4 i5 i6 i7 i8 hgr hmem
        have hP1 := hid hk1; have hP2 := hid hk2; have hP3 := hid hk3
        clear hk1 hk2 hk3
        by_cases k3 : 3 ≤ x.k
        · rw [if_pos k3] at p2
          rw [if_neg (by omega)] at p3
          have kB : (x.k == 2) = false := by simp; omega
          have HQ := hid (show al + gk = t - (pw (k + 1)).rest ∧ ow + gk = (pw (k + 1)).ow ∧ rp = (pw (k + 1)).rp by rw [p1, p2, p3, hP1.out, hP2.out, hP3.out]; omega)
          clear p1 p2 p3 hP1 hP2 hP3
          rw [decide_eq_true k3] at how
          go_wp2_with fail
          refine hgk.mono ?_
          rintro e V1 ⟨rfl, hb1⟩
          have r0 := Below.keep hb1 q0; have r1 := Below.keep hb1 q1; have r2 := Below.keep hb1 q2; have r3 := Below.keep hb1 q3
          replace x0 := x0.below hb1; replace x1 := x1.below hb1; replace x2 := x2.below hb1
          replace hb := hb.trans (hb1.mono hb.size)
          clear hgk hX1 hb1 c0 c1 d0 d1 d2 q0 q1 q2 q3 q0'
          have c0 := x0.cell 0 rfl; have c1 := x0.cell 1 rfl
          have d0 := x1.cell 0 rfl; have d1 := x1.cell 1 rfl; have d2 := x1.cell 2 rfl
          go_wp2_with fail
          refine (how _).mono ?_
          rintro e V2 ⟨rfl, hb1⟩
          have s0 := Below.keep hb1 r0
          replace x0 := x0.below hb1; replace x1 := x1.below hb1; replace x2 := x2.below hb1
          replace hb := hb.trans (hb1.mono hb.size)
          clear hb1 c0 c1 d0 d1 d2 r0 r1 r2 r3 how
          have c0 := x0.cell 0 rfl; have c1 := x0.cell 1 rfl
          go_wp2
          go_roundw
          case rel => exact ⟨k + 1, al + gk, ow + gk, rp, by omega, rfl, rfl, rfl, by simp, HQ, x0, x1, x2, hb⟩
          case measure => simp [intOf]; omega
        · rw [if_neg k3] at p2
          rw [decide_eq_false k3] at how
          by_cases k2 : x.k = 2
          · rw [if_pos k2] at p3
            have kB : (x.k == 2) = true := by simp [k2]
            have HQ := hid (show al + gk = t - (pw (k + 1)).rest ∧ ow = (pw (k + 1)).ow ∧ rp + gk = (pw (k + 1)).rp by rw [p1, p2, p3, hP1.out, hP2.out, hP3.out]; omega)
            clear p1 p2 p3 hP1 hP2 hP3 k2
            go_wp2_with fail
            refine hgk.mono ?_
            rintro e V1 ⟨rfl, hb1⟩
            have r0 := Below.keep hb1 q0; have r1 := Below.keep hb1 q1; have r2 := Below.keep hb1 q2; have r3 := Below.keep hb1 q3
            replace x0 := x0.below hb1; replace x1 := x1.below hb1; replace x2 := x2.below hb1
            replace hb := hb.trans (hb1.mono hb.size)
            clear hgk hX1 hb1 c0 c1 d0 d1 d2 q0 q1 q2 q3 q0'
            have c0 := x0.cell 0 rfl; have c1 := x0.cell 1 rfl
            have d0 := x1.cell 0 rfl; have d1 := x1.cell 1 rfl; have d2 := x1.cell 2 rfl
            go_wp2_with fail
            refine (how _).mono ?_
            rintro e V2 ⟨rfl, hb1⟩
            have s0 := Below.keep hb1 r0
            replace x0 := x0.below hb1; replace x1 := x1.below hb1; replace x2 := x2.below hb1
            replace hb := hb.trans (hb1.mono hb.size)
            clear hb1 c0 c1 d0 d1 d2 r0 r1 r2 r3 how
            have c0 := x0.cell 0 rfl; have c1 := x0.cell 1 rfl
            go_wp2
            go_roundw
            case rel => exact ⟨k + 1, al + gk, ow, rp + gk, by omega, rfl, rfl, rfl, by simp, HQ, x0, x1, x2, hb⟩
            case measure => simp [intOf]; omega
          · rw [if_neg k2] at p3
            have kB : (x.k == 2) = false := by simp [k2]
            have HQ := hid (show al + gk = t - (pw (k + 1)).rest ∧ ow = (pw (k + 1)).ow ∧ rp = (pw (k + 1)).rp by rw [p1, p2, p3, hP1.out, hP2.out, hP3.out]; omega)
            clear p1 p2 p3 hP1 hP2 hP3 k2
            go_wp2_with fail
            refine hgk.mono ?_
            rintro e V1 ⟨rfl, hb1⟩
            have r0 := Below.keep hb1 q0; have r1 := Below.keep hb1 q1; have r2 := Below.keep hb1 q2; have r3 := Below.keep hb1 q3
            replace x0 := x0.below hb1; replace x1 := x1.below hb1; replace x2 := x2.below hb1
            replace hb := hb.trans (hb1.mono hb.size)
            clear hgk hX1 hb1 c0 c1 d0 d1 d2 q0 q1 q2 q3 q0'
            have c0 := x0.cell 0 rfl; have c1 := x0.cell 1 rfl
            have d0 := x1.cell 0 rfl; have d1 := x1.cell 1 rfl; have d2 := x1.cell 2 rfl
            go_wp2_with fail
            refine (how _).mono ?_
            rintro e V2 ⟨rfl, hb1⟩
            have s0 := Below.keep hb1 r0
            replace x0 := x0.below hb1; replace x1 := x1.below hb1; replace x2 := x2.below hb1
            replace hb := hb.trans (hb1.mono hb.size)
            clear hb1 c0 c1 d0 d1 d2 r0 r1 r2 r3 how
            have c0 := x0.cell 0 rfl; have c1 := x0.cell 1 rfl
            go_wp2
            go_roundw
            case rel => exact ⟨k + 1, al + gk, ow, rp, by omega, rfl, rfl, rfl, by simp, HQ, x0, x1, x2, hb⟩
            case measure => simp [intOf]; omega
      · have hkn : k = n := by omega
        have hkI : ¬ (k : Int) < n := by omega
        obtain ⟨_, e2, e3⟩ := HK.out
        obtain ⟨a1, a2⟩ := HPA.out
        have f2 : (ow == u.ow) = true := by rw [e2, a1, hkn]; simp
        have f3 : (rp == u.rp) = true := by rw [e3, a2, hkn]; simp
        clear e2 e3 a1 a2 hkn HK hpi hps hgc hik hX1 d0 d1 d2
        have d0 := x2.cell 0 rfl; have d1 := x2.cell 1 rfl; have d2 := x2.cell 2 rfl
        go_wp2_with fail
        refine (hwk _).mono ?_
        rintro e Vw ⟨rfl, hbw9⟩
        replace hb := hb.trans (hbw9.mono hb.size)
        clear c0 c1 d0 d1 d2
        go_wp2
        go_ret
        exact ⟨rfl, hb⟩
  · have hvm : gi ≤ v.ow := by omega
    clear hmin
    go_upto_region 8 with fail
    clear m0 m1 m2
    clear x3
    clear d0 d1 d2
    clear k0 k1 k2
    clear c0 c1
    go_wp2
    clear hX1
    go_loopw [9, 10, 11, 12, 13, 14] (fun v9 v10 v11 v12 v13 v14 wr => ∃ (k : Nat) (al ow rp : Int), k ≤ n ∧ v9 = .int .i64 al ∧ v10 = .int .i64 ow ∧ v11 = .int .i64 rp ∧ v12 = .int .i64 (k : Int) ∧ Hid (al = t - (pw k).rest ∧ ow = (pw k).ow ∧ rp = (pw k).rp) ∧ Bx wr w.heap.size #[.slice ac n cc, .int .i64 L] 24 ∧ Bx wr (w.heap.size + 1) #[.int .i64 t, .int .i64 gi, .int .i64 z] 26 ∧ Bx wr sa_x2 #[.int .i64 u.op, .int .i64 u.ow, .int .i64 u.rp] 33 ∧ Below w.heap.size w wr) (fun _ _ _ v12 _ _ _ => n - (intOf v12).toNat)
    case atStart => exact ⟨0, 0, 0, 0, Nat.zero_le _, rfl, rfl, rfl, rfl, hid (by rw [HP0.out]; simp [beginW]), x0, x1, x2, hb⟩
    case round =>
      clear x0 x1 x2 hb
      obtain ⟨k, al, ow, rp, hk, rfl, rfl, rfl, rfl, HK, x0, x1, x2, hb⟩ := hrel
      have hX1 := hX.below hb (Nat.le_refl _)
      have hik := hpi k
      have c0 := x0.cell 0 rfl; have c1 := x0.cell 1 rfl
      have d0 := x1.cell 0 rfl; have d1 := x1.cell 1 rfl; have d2 := x1.cell 2 rfl
      by_cases hlt : k < n
      · obtain ⟨bq, off, x, rfl, hbl, ⟨q0, q1, q2, q3⟩, _, hmem, hgx, _, _⟩ := hX1.at (k := k) (by rw [← HN.out]; exact hlt)
        have hkI : (k : Int) < n := by omega
        have hk0 : (0 : Int) ≤ (k : Int) := by omega
        obtain ⟨hs1, hs2⟩ := hps k x hgx.out
        have hxo := hok x hmem
        obtain ⟨p1, p2, p3⟩ := step_parts (pw k) x hxo
        rw [← hs1, ← hs2] at p1 p2 p3
        have hgr := gives_rng hxo hik
        rw [← hs2] at hgr
        have hgk := hgc k hlt _ hX1
        have how := fun V => IsOwners_any x V
        obtain ⟨gk, hgkk⟩ : ∃ gk, gk = G k := ⟨_, rfl⟩
        rw [← hgkk] at hgk p1 p2 p3 hgr
        obtain ⟨hk1, hk2, hk3⟩ := HK.out
        have i1 := hik.op; have i2 := hik.ow; have i3 := hik.rp; have i4 := hik.rest; have i5 := hik.sum; have i6 := hik.le; have i7 := hik.loan; have i8 := hik.owed
        have e0 : IntKind.i64.wrap (t - al) = t - al := IntWalk.i64_in _ (by omega)
        have e1 : IntKind.i64.wrap (al + gk) = al + gk := IntWalk.i64_in _ (by omega)
        have e2 : IntKind.i64.wrap (ow + gk) = ow + gk := IntWalk.i64_in _ (by omega)
        have e3 : IntKind.i64.wrap (rp + gk) = rp + gk := IntWalk.i64_in _ (by omega)
        have g0 : 0 ≤ gk := hgr.1
        have g1 : gk ≤ t - al := by omega
        have q0' := q0; have hxk := hxo.1
        clear hs1 hs2 hgx hgkk hpi hps hgc hik i1 i2 i3 i4 i5 i6 i7 i8 hgr hmem
        have hP1 := hid hk1; have hP2 := hid hk2; have hP3 := hid hk3
        clear hk1 hk2 hk3
        by_cases k3 : 3 ≤ x.k
        · rw [if_pos k3] at p2
          rw [if_neg (by omega)] at p3
          have kB : (x.k == 2) = false := by simp; omega
          have HQ := hid (show al + gk = t - (pw (k + 1)).rest ∧ ow + gk = (pw (k + 1)).ow ∧ rp = (pw (k + 1)).rp by rw [p1, p2, p3, hP1.out, hP2.out, hP3.out]; omega)
          clear p1 p2 p3 hP1 hP2 hP3
          rw [decide_eq_true k3] at how
          go_wp2_with fail
          refine hgk.mono ?_
          rintro e V1 ⟨rfl, hb1⟩
          have r0 := Below.keep hb1 q0; have r1 := Below.keep hb1 q1; have r2 := Below.keep hb1 q2; have r3 := Below.keep hb1 q3
          replace x0 := x0.below hb1; replace x1 := x1.below hb1; replace x2 := x2.below hb1
          replace hb := hb.trans (hb1.mono hb.size)
          clear hgk hX1 hb1 c0 c1 d0 d1 d2 q0 q1 q2 q3 q0'
          have c0 := x0.cell 0 rfl; have c1 := x0.cell 1 rfl
          have d0 := x1.cell 0 rfl; have d1 := x1.cell 1 rfl; have d2 := x1.cell 2 rfl
          go_wp2_with fail
          refine (how _).mono ?_
          rintro e V2 ⟨rfl, hb1⟩
          have s0 := Below.keep hb1 r0
          replace x0 := x0.below hb1; replace x1 := x1.below hb1; replace x2 := x2.below hb1
          replace hb := hb.trans (hb1.mono hb.size)
          clear hb1 c0 c1 d0 d1 d2 r0 r1 r2 r3 how
          have c0 := x0.cell 0 rfl; have c1 := x0.cell 1 rfl
          go_wp2
          go_roundw
          case rel => exact ⟨k + 1, al + gk, ow + gk, rp, by omega, rfl, rfl, rfl, by simp, HQ, x0, x1, x2, hb⟩
          case measure => simp [intOf]; omega
        · rw [if_neg k3] at p2
          rw [decide_eq_false k3] at how
          by_cases k2 : x.k = 2
          · rw [if_pos k2] at p3
            have kB : (x.k == 2) = true := by simp [k2]
            have HQ := hid (show al + gk = t - (pw (k + 1)).rest ∧ ow = (pw (k + 1)).ow ∧ rp + gk = (pw (k + 1)).rp by rw [p1, p2, p3, hP1.out, hP2.out, hP3.out]; omega)
            clear p1 p2 p3 hP1 hP2 hP3 k2
            go_wp2_with fail
            refine hgk.mono ?_
            rintro e V1 ⟨rfl, hb1⟩
            have r0 := Below.keep hb1 q0; have r1 := Below.keep hb1 q1; have r2 := Below.keep hb1 q2; have r3 := Below.keep hb1 q3
            replace x0 := x0.below hb1; replace x1 := x1.below hb1; replace x2 := x2.below hb1
            replace hb := hb.trans (hb1.mono hb.size)
            clear hgk hX1 hb1 c0 c1 d0 d1 d2 q0 q1 q2 q3 q0'
            have c0 := x0.cell 0 rfl; have c1 := x0.cell 1 rfl
            have d0 := x1.cell 0 rfl; have d1 := x1.cell 1 rfl; have d2 := x1.cell 2 rfl
            go_wp2_with fail
            refine (how _).mono ?_
            rintro e V2 ⟨rfl, hb1⟩
            have s0 := Below.keep hb1 r0
            replace x0 := x0.below hb1; replace x1 := x1.below hb1; replace x2 := x2.below hb1
            replace hb := hb.trans (hb1.mono hb.size)
            clear hb1 c0 c1 d0 d1 d2 r0 r1 r2 r3 how
            have c0 := x0.cell 0 rfl; have c1 := x0.cell 1 rfl
            go_wp2
            go_roundw
            case rel => exact ⟨k + 1, al + gk, ow, rp + gk, by omega, rfl, rfl, rfl, by simp, HQ, x0, x1, x2, hb⟩
            case measure => simp [intOf]; omega
          · rw [if_neg k2] at p3
            have kB : (x.k == 2) = false := by simp [k2]
            have HQ := hid (show al + gk = t - (pw (k + 1)).rest ∧ ow = (pw (k + 1)).ow ∧ rp = (pw (k + 1)).rp by rw [p1, p2, p3, hP1.out, hP2.out, hP3.out]; omega)
            clear p1 p2 p3 hP1 hP2 hP3 k2
            go_wp2_with fail
            refine hgk.mono ?_
            rintro e V1 ⟨rfl, hb1⟩
            have r0 := Below.keep hb1 q0; have r1 := Below.keep hb1 q1; have r2 := Below.keep hb1 q2; have r3 := Below.keep hb1 q3
            replace x0 := x0.below hb1; replace x1 := x1.below hb1; replace x2 := x2.below hb1
            replace hb := hb.trans (hb1.mono hb.size)
            clear hgk hX1 hb1 c0 c1 d0 d1 d2 q0 q1 q2 q3 q0'
            have c0 := x0.cell 0 rfl; have c1 := x0.cell 1 rfl
            have d0 := x1.cell 0 rfl; have d1 := x1.cell 1 rfl; have d2 := x1.cell 2 rfl
            go_wp2_with fail
            refine (how _).mono ?_
            rintro e V2 ⟨rfl, hb1⟩
            have s0 := Below.keep hb1 r0
            replace x0 := x0.below hb1; replace x1 := x1.below hb1; replace x2 := x2.below hb1
            replace hb := hb.trans (hb1.mono hb.size)
            clear hb1 c0 c1 d0 d1 d2 r0 r1 r2 r3 how
            have c0 := x0.cell 0 rfl; have c1 := x0.cell 1 rfl
            go_wp2
            go_roundw
            case rel => exact ⟨k + 1, al + gk, ow, rp, by omega, rfl, rfl, rfl, by simp, HQ, x0, x1, x2, hb⟩
            case measure => simp [intOf]; omega
      · have hkn : k = n := by omega
        have hkI : ¬ (k : Int) < n := by omega
        obtain ⟨_, e2, e3⟩ := HK.out
        obtain ⟨a1, a2⟩ := HPA.out
        have f2 : (ow == u.ow) = true := by rw [e2, a1, hkn]; simp
        have f3 : (rp == u.rp) = true := by rw [e3, a2, hkn]; simp
        clear e2 e3 a1 a2 hkn HK hpi hps hgc hik hX1 d0 d1 d2
        have d0 := x2.cell 0 rfl; have d1 := x2.cell 1 rfl; have d2 := x2.cell 2 rfl
        go_wp2_with fail
        refine (hwk _).mono ?_
        rintro e Vw ⟨rfl, hbw9⟩
        replace hb := hb.trans (hbw9.mono hb.size)
        clear c0 c1 d0 d1 d2
        go_wp2
        go_ret
        exact ⟨rfl, hb⟩
theorem sharesCent_any (ac : Option Addr) (cc : Nat) (cs : List Cl) (L : Int) (t gi z : Int) (w : World) (hS : ShIn w ac cc cs) : Calls Try.prog 7 #[.agg #[.slice ac cs.length cc, .int .i64 L], .agg #[.int .i64 t, .int .i64 gi, .int .i64 z]] w fun e w' => e = .returned (.bool true) ∧ Below w.heap.size w w' := by
  cases h : (shB cs L && cenB t && cenB gi)
  · exact Cent_bad ac cc cs L t gi z w hS h
  · simp only [Bool.and_eq_true] at h
    exact Cent_ok ac cc cs L t gi z w (hS.cl (by have := (shB_ok h.1.1).1; omega)) hS.cap h.1.1 h.1.2 h.2
end Go.Proofs.Ythgjjlkdekfdbaa
