import Derived.Test.YtakodllejndfeaaT31
/-! RoyaltiesTwo: joined is walked. -/
namespace Go.Proofs.Ytakodllejndfeaa
set_option linter.unusedSimpArgs false
set_option linter.unusedVariables false
open Go Go.RowKit

/-- What joined hands back. -/
def JoP (p : Int) (T : List Sd) (O : List Int) (w : World) (e : Ending) (w' : World) : Prop :=
  Below w.heap.size w w' ∧ ∃ (a b : Option Addr) (c d : Nat), e = .returned (.agg #[.int .i64 p, .slice a T.length c, .slice b O.length d]) ∧ Ry w' a b p T O
theorem prs_at {V : World} {a : Option Addr} {ps : List (Int × Int)} (h : Prs V a ps) {k : Nat} (hk : k < ps.length) : ∃ (b off : Nat) (q : Int × Int), a = some ⟨b, off, none⟩ ∧ V.cell? ⟨b, off + k * 2, none⟩ = some (.int .i64 q.1) ∧ V.cell? ⟨b, off + k * 2 + 1, none⟩ = some (.int .i64 q.2) ∧ q ∈ ps ∧ Hid (ps.take (k + 1) = ps.take k ++ [q]) := by
  obtain ⟨b, off, e, hl, h1, h2⟩ := h.2.2 k hk
  have hg : ps[k]? = some (ps.getD k (0, 0)) := get_of_lt (0, 0) hk
  exact ⟨b, off, ps.getD k (0, 0), e, h1, h2, List.mem_of_getElem? hg, hid (take_snoc hg)⟩
theorem cellS {V V' : World} {s1 b o : Nat} {v : Value} (hg : V.grownBy V' (some s1)) (hne : b ≠ s1) (h : V.cell? ⟨b, o, none⟩ = some v) : V'.cell? ⟨b, o, none⟩ = some v := by
  rw [← h]
  exact World.cell?_of_block (w := V) (hg.block b (cell_lt h) (fun e => hne (by cases e; rfl)))
theorem bx_at {V : World} {s o : Nat} {vs : Array Value} {T : TypeId} {v : Value} (h : Bx V s vs T) (hc : V.cell? ⟨s, o, none⟩ = some v) : vs[o]? = some v := by
  unfold Bx at h
  unfold World.cell? at hc
  simp only [h] at hc
  simpa using hc
/-- A royal is not met by a store into a box that holds none. -/
theorem ry_put {V V' : World} {a b : Option Addr} {p : Int} {T : List Sd} {O : List Int} {s1 : Nat} (h : Ry V a b p T O) (hT : ∀ s ∈ T, s.ps ≠ []) (hO : 2 ≤ O.length) (x1 : Bx V s1 #[.int .i64 0, .slice none 0 0, .slice none 0 0] 25) (hg : V.grownBy V' (some s1)) : Ry V' a b p T O := by
  have hs := hg.size
  have two : ∀ {bb o : Nat} {x y : Int}, V.cell? ⟨bb, o, none⟩ = some (.int .i64 x) → V.cell? ⟨bb, o + 1, none⟩ = some (.int .i64 y) → bb ≠ s1 := fun {bb o x y} h1 h2 e => by
    subst e
    have q1 := bx_at x1 h1
    have q2 := bx_at x1 h2
    rcases (show o = 0 ∨ o = 1 ∨ o = 2 ∨ 3 ≤ o by omega) with rfl | rfl | rfl | h3
    · simp at q2
    · simp at q1
    · simp at q1
    · rw [Array.getElem?_eq_none (by simp; omega)] at q1; cases q1
  refine ⟨⟨h.sd.1, fun i hi => ?_⟩, ⟨h.ow.1, h.ow.2.1, fun i hi => ?_⟩, h.ol, h.pr⟩
  · obtain ⟨bb, off, e, hl, a', c', q0, q1, q2, q3, q4⟩ := h.sd.2 i hi
    have hne : bb ≠ s1 := fun e2 => by
      subst e2
      have r0 := bx_at x1 q0
      have r1 := bx_at x1 q1
      have hps := hT _ (List.mem_of_getElem? (get_of_lt sd0 hi))
      rcases (show off + i * 2 = 0 ∨ off + i * 2 = 1 ∨ off + i * 2 = 2 ∨ 3 ≤ off + i * 2 by omega) with h3 | h3 | h3 | h3
      · rw [h3] at r1
        simp at r1
        exact hps (List.eq_nil_of_length_eq_zero r1.2.1.symm)
      · rw [h3] at r0; simp at r0
      · rw [h3] at r0; simp at r0
      · rw [Array.getElem?_eq_none (by simp; omega)] at r0; cases r0
    refine ⟨bb, off, e, by omega, a', c', cellS hg hne q0, cellS hg hne q1, ⟨q2.1, q2.2.1, fun k hk => ?_⟩, q3, q4⟩
    obtain ⟨b2, o2, e2, hl2, r0, r1⟩ := q2.2.2 k hk
    have hne2 := two r0 r1
    exact ⟨b2, o2, e2, by omega, cellS hg hne2 r0, cellS hg hne2 r1⟩
  · obtain ⟨bb, off, e, hl, q0⟩ := h.ow.2.2 i hi
    have hne : bb ≠ s1 := by
      obtain ⟨b0, o0, e0, _, r0⟩ := h.ow.2.2 0 (by omega)
      obtain ⟨b1, o1, e1, _, r1⟩ := h.ow.2.2 1 (by omega)
      rw [e] at e0 e1
      cases e0
      cases e1
      rw [Nat.add_zero] at r0
      exact two r0 r1
    exact ⟨bb, off, e, by omega, cellS hg hne q0⟩
/-- The copy while its sides are joined. -/
def JoI (n : Nat) (u v : Int) (p : Int) (S : List Sd) (O : List Int) (a1 b1 : Option Addr) (c1 d1 lo s7 i : Nat) (wr : World) : Prop :=
  (S = [] ∧ Ry wr a1 b1 p S O) ∨ (∃ B g hi, a1 = some ⟨g, 0, none⟩ ∧ g < s7 ∧ lo ≤ g ∧ CuM wr B g hi b1 c1 d1 (midJ n u v S i) O)
theorem JoI.below {n : Nat} {u v : Int} {p : Int} {S : List Sd} {O : List Int} {a1 b1 : Option Addr} {c1 d1 lo s7 i : Nat} {wr w' : World} (h : JoI n u v p S O a1 b1 c1 d1 lo s7 i wr) (hb : Below wr.heap.size wr w') : JoI n u v p S O a1 b1 c1 d1 lo s7 i w' := by
  rcases h with ⟨h1, h2⟩ | ⟨B, g, hi, h1, h2, h3, h4⟩
  · exact .inl ⟨h1, h2.below hb (Nat.le_refl _)⟩
  · exact .inr ⟨B, g, hi, h1, h2, h3, h4.below hb⟩
theorem JoI.ry {n : Nat} {u v : Int} {p : Int} {S : List Sd} {O : List Int} {a1 b1 : Option Addr} {c1 d1 lo s7 : Nat} {wr : World} (h : JoI n u v p S O a1 b1 c1 d1 lo s7 S.length wr) (hl : S.length ≤ 1000) (ho : O.length ≤ 1000) (hp : i64R p) : Ry wr a1 b1 p (joS n u v S) O := by
  rcases h with ⟨h1, h2⟩ | ⟨B, g, hi, h1, h2, h3, h4⟩
  · subst h1; exact h2
  · rw [midJ_end] at h4
    rw [h1]
    exact h4.ry (by rw [joS_len]; exact hl) ho hp

set_option maxRecDepth 100000 in
set_option maxHeartbeats 8000000 in
theorem joined_any (p : Int) (aS aO : Option Addr) (cS cO : Nat) (S : List Sd) (O : List Int) (u v : Nat) (w : World) (hX : Ry w aS aO p S O) (hV : VOk p S O) (hu : u < O.length) (hv : v < O.length) (huv : u ≠ v) : Calls Try.prog 24 #[.agg #[.int .i64 p, .slice aS S.length cS, .slice aO O.length cO], .int .i64 (u : Int), .int .i64 (v : Int)] w (JoP p (joS O.length u v S) O w) := by
  obtain ⟨k0, hk0, kz0, kz1, kz2⟩ := info_parts info53
  have hol := hX.ol; have hm6 := hV.m6; have hn6 := hV.n6; have hpr := hX.pr
  have hcp := fun V h => Copy_any p aS aO cS cO S O V h
  unfold CopyP at hcp
  have hjo := fun s (h : s ∈ S) => jo_ok (hV.sd s h) hu hv huv
  have hml := fun k (h : k ≤ S.length) => midJ_len O.length u v S h
  have hma := fun k s (h : S[k]? = some s) => midJ_at O.length u v h
  have hms := fun k s (h : S[k]? = some s) => midJ_set O.length u v h
  have hm0 := midJ_zero O.length u v S
  have hjl := joS_len O.length u v S
  have hne : ∀ s ∈ joS O.length (u : Int) v S, s.ps ≠ [] := fun t ht e => by
    obtain ⟨s, hs, rfl⟩ := List.mem_map.1 ht
    have h1 := (jo_ok (hV.sd s hs) hu hv huv).sum
    rw [e] at h1
    simp [sumP] at h1
  have hsx := hV.sd
  obtain ⟨n, hn⟩ : ∃ n, n = O.length := ⟨_, rfl⟩
  obtain ⟨m, hm⟩ : ∃ m, m = S.length := ⟨_, rfl⟩
  unfold JoP
  rw [hjl]
  have hfin : ∀ (V V' : World) (a b : Option Addr) (c d s1 : Nat), Ry V a b p (joS O.length u v S) O → Bx V s1 #[.int .i64 0, .slice none 0 0, .slice none 0 0] 25 → V.grownBy V' (some s1) → Ry V' a b p (joS O.length u v S) O := fun V V' a b c d s1 h x1 hg => ry_put h hne (by omega) x1 hg
  rw [← hn] at hol hn6 hcp hjo hml hma hms hm0 hu hv hfin hsx ⊢
  rw [← hm] at hm6 hcp hml ⊢
  have HN := hid hn; have HM := hid hm
  have HJO := hid hjo; have HML := hid hml; have HMA := hid hma; have HMS := hid hms; have HM0 := hid hm0; have HFI := hid hfin; have HSX := hid hsx
  have huI : (u : Int) < (n : Int) := by omega
  have hvI : (v : Int) < (n : Int) := by omega
  obtain ⟨W, hW, hb, hs, x0, x1⟩ := boxes2 w #[.int .i64 p, .slice aS m cS, .slice aO n cO] 25 #[.int .i64 0, .slice none 0 0, .slice none 0 0] 25
  have hXW := hX.below hb (Nat.le_refl _)
  clear hn hm hjo hml hma hms hm0 hjl hne hfin hsx hV
  have y0 := x0.cell 0 rfl; have y1 := x0.cell 1 rfl; have y2 := x0.cell 2 rfl
  go_enter Try.func24, Try.ntmps24
  go_wp2_with fail
  refine (hcp _ hXW).mono ?_
  rintro e V ⟨a1, b1, c1, d1, rfl, hcm, hb1, hsz1⟩
  replace x0 := x0.below hb1
  replace x1 := x1.below hb1
  replace hb := hb.trans (hb1.mono hb.size)
  have hji : JoI n (u : Int) v p S O a1 b1 c1 d1 (w.heap.size + 2) V.heap.size 0 V := by
    by_cases hmz : S = []
    · exact .inl ⟨hmz, hcm.ry (by rw [← HM.out]; omega) (by rw [← HN.out]; omega) hpr⟩
    · obtain ⟨g, e, hg, hcu⟩ := CuM.ofC hcm (List.length_pos_iff.2 hmz)
      obtain ⟨cs, ho, _⟩ := hcu.ex
      exact .inr ⟨_, g, V.heap.size, e, (ho.lt g rfl).2, by omega, by rw [HM0.out]; exact hcu⟩
  clear y0 y1 y2 hcp hb1 hW hXW hcm
  have hba := below_one (w := V) (.cells #[.int .i64 p, .slice a1 m c1, .slice b1 n d1] 25)
  have HXb := hid (And.intro (x0.below hba) (And.intro (x1.below hba) (And.intro (hb.trans (hba.mono hb.size)) (And.intro (Bx.new V #[.int .i64 p, .slice a1 m c1, .slice b1 n d1] 25) (hji.below hba)))))
  clear x0 x1 hb hba hji hsz1
  go_upto_region 2 with fail
  obtain ⟨x0, x1, hb, x3, hji⟩ := HXb.out
  clear HXb
  generalize V.heap.size = s7 at *
  generalize World.alloc _ _ = V1 at *
  go_wp2
  go_loopw [8, 9, 10, 11, 12, 13, 14, 15] (fun v8 _ _ _ _ _ _ _ wr => ∃ i : Nat, i ≤ m ∧ v8 = .int .i64 (i : Int) ∧ Bx wr w.heap.size #[.int .i64 p, .slice aS m cS, .slice aO n cO] 25 ∧ Bx wr (w.heap.size + 1) #[.int .i64 0, .slice none 0 0, .slice none 0 0] 25 ∧ Below w.heap.size w wr ∧ Bx wr s7 #[.int .i64 p, .slice a1 m c1, .slice b1 n d1] 25 ∧ JoI n u v p S O a1 b1 c1 d1 (w.heap.size + 2) s7 i wr) (fun v8 _ _ _ _ _ _ _ _ => m - (intOf v8).toNat)
  case atStart => exact ⟨0, Nat.zero_le _, rfl, x0, x1, hb, x3, hji⟩
  case round =>
    clear x0 x1 hb x3 hji
    obtain ⟨i, hi, rfl, x0, x1, hb, x3, hji⟩ := hrel
    obtain ⟨wo, rfl⟩ : ∃ wo : World, wo = wr := ⟨_, rfl⟩
    by_cases hlt : i < m
    · rcases hji with ⟨hS0, _⟩ | ⟨B0, g, hh, rfl, hgs, hlo, hcu⟩
      · exfalso
        have h9 := HM.out
        have h0 : S.length = 0 := by rw [hS0]; rfl
        omega
      · obtain ⟨b, off, s, a', c', rfl, hbl, q0, q1, hP, hpl, _, hmem, hg⟩ := hX.sd.at (k := i) (by rw [← HM.out]; exact hlt)
        have hiI : (i : Int) < (m : Int) := by omega
        have hi0 : (0 : Int) ≤ (i : Int) := by omega
        have hso := HSX.out s hmem
        have hjo := HJO.out s hmem
        have hma := HMA.out i s hg.out
        have hms := HMS.out i s hg.out
        obtain ⟨pl, ps⟩ := s
        simp only at q0 q1 hP hpl hjo hms hma
        have hpct := hso.pct
        have hsum := hso.sum
        simp only at hpct hsum
        obtain ⟨K, hK⟩ : ∃ K, K = ps.length := ⟨_, rfl⟩
        have HK := hid hK
        rw [← hK] at q1 hpl
        have hK0 : 0 < K := by
          rcases Nat.eq_zero_or_pos K with h0 | h0
          · have h9 : ps = [] := List.eq_nil_of_length_eq_zero (by rw [← HK.out]; exact h0)
            rw [h9] at hsum
            simp [sumP] at hsum
          · exact h0
        have htr : ∀ k, 0 ≤ twoS (ps.take k) u v ∧ twoS (ps.take k) u v ≤ 100000 := fun k => by
          have h1 := fun q (hq : q ∈ ps.take k) => hpct q (List.mem_of_mem_take hq)
          have h2 := twoS_rng h1 (u : Int) v
          have h3 := sumP_rng h1
          have h4 : (ps.take k).length ≤ K := by rw [List.length_take]; omega
          omega
        have hTT := twoS_snoc
        obtain ⟨bq, oq, _, ea, _⟩ := prs_at hP (by rw [← HK.out]; exact hK0)
        subst ea
        have HJ1 := hid hjo; have HMA1 := hid hma; have HMS1 := hid hms; have HTR := hid htr; have HPC := hid hpct
        clear hK hmem hg hso hjo hma hms hsum htr hpct q0
        have x00 := x0
        have y0 := x0.cell 0 rfl; have y1 := x0.cell 1 rfl; have y2 := x0.cell 2 rfl
        have z0 := x3.cell 0 rfl; have z1 := x3.cell 1 rfl; have z2 := x3.cell 2 rfl
        go_wp2
        clear y0 y1 y2 z0 z1 z2
        go_loopg [9, 10, 11] K (fun gg v9 v10 v11 wr => ∃ k : Nat, k + gg = K ∧ v10 = .int .i64 (k : Int) ∧ v9 = .int .i64 (twoS (ps.take k) u v) ∧ Below wo.heap.size wo wr)
        case atStart => exact ⟨0, by omega, rfl, rfl, Below.refl _ _⟩
        case round =>
          obtain ⟨k, hkg, rfl, rfl, hbi⟩ := hrel
          have xr := x0.below hbi
          have hbr := hb.trans (hbi.mono hb.size)
          have q1r := Below.keep hbr q1
          have y0 := xr.cell 0 rfl; have y1 := xr.cell 1 rfl; have y2 := xr.cell 2 rfl
          cases gk with
          | succ gg =>
            have hkn : k < K := by omega
            have hkI : (k : Int) < (K : Int) := by omega
            have hkz : (0 : Int) ≤ (k : Int) := by omega
            obtain ⟨bq', oq', q, ea, r1, r2, hqm, htk⟩ := prs_at (hP.below hbr (Nat.le_refl _)) (k := k) (by rw [← HK.out]; exact hkn)
            cases ea
            have htr := HTR.out k
            have htr1 := HTR.out (k + 1)
            have hsn := twoS_snoc (ps.take k) q u v
            rw [← htk.out] at hsn
            have hwk : IntKind.i64.wrap ((k : Int) + 1) = ((k + 1 : Nat) : Int) := by rw [IntWalk.i64_in _ (by omega)]; omega
            have hba := below_one (w := wr) (.cells #[.int .i64 q.1, .int .i64 q.2] 53)
            have HXc := hid (And.intro (hbi.trans (hba.mono hbi.size)) (Bx.new wr #[.int .i64 q.1, .int .i64 q.2] 53))
            obtain ⟨t, ht⟩ : ∃ t, t = twoS (ps.take k) u v := ⟨_, rfl⟩
            rw [← ht] at hsn htr ⊢
            have HSN := hid hsn
            clear hba htk ht hqm
            go_upto_region 10 with fail
            clear y0 y1 y2 q1r r1 r2 hbi
            obtain ⟨hbi, y⟩ := HXc.out
            clear HXc
            generalize wr.heap.size = sp at *
            generalize World.alloc _ _ = Va at *
            have y0 := y.cell 0 rfl; have y1 := y.cell 1 rfl
            by_cases h1 : q.1 = (u : Int)
            · have hB1 : (q.1 == (u : Int)) = true := by simp [h1]
              have hq := HSN.out
              rw [if_pos (.inl h1)] at hq
              have hw : IntKind.i64.wrap (t + q.2) = t + q.2 := IntWalk.i64_in _ (by rw [hq] at htr1; omega)
              have HQ := hid hq
              clear hq HSN h1
              go_wp2
              clear y0 y1
              go_roundg gg
              case measure => omega
              case rel => exact ⟨k + 1, by omega, by go_num, by rw [HQ.out], hbi⟩
            · have hB1 : (q.1 == (u : Int)) = false := by rw [beq_eq_false_iff_ne]; exact h1
              by_cases h2 : q.1 = (v : Int)
              · have hB2 : (q.1 == (v : Int)) = true := by simp [h2]
                have hq := HSN.out
                rw [if_pos (.inr h2)] at hq
                have hw : IntKind.i64.wrap (t + q.2) = t + q.2 := IntWalk.i64_in _ (by rw [hq] at htr1; omega)
                have HQ := hid hq
                clear hq HSN h1 h2
                go_wp2
                clear y0 y1
                go_roundg gg
                case measure => omega
                case rel => exact ⟨k + 1, by omega, by go_num, by rw [HQ.out], hbi⟩
              · have hB2 : (q.1 == (v : Int)) = false := by rw [beq_eq_false_iff_ne]; exact h2
                have hq := HSN.out
                rw [if_neg (by omega), Int.add_zero] at hq
                have HQ := hid hq
                clear hq HSN h1 h2
                go_wp2
                clear y0 y1
                go_roundg gg
                case measure => omega
                case rel => exact ⟨k + 1, by omega, by go_num, by rw [HQ.out], hbi⟩
          | zero =>
            obtain rfl : k = K := by omega
            have hkI : ¬ (k : Int) < (k : Int) := by omega
            have et : twoS (ps.take k) u v = twoS ps u v := by rw [HK.out, List.take_length]
            have htr := HTR.out k
            rw [et] at htr ⊢
            obtain ⟨t, ht⟩ : ∃ t, t = twoS ps u v := ⟨_, rfl⟩
            rw [← ht] at htr ⊢
            have HT := hid ht
            have hkl : ∀ j, j ≤ 6 → (joK u v t ps j).length ≤ 6 * (1 + k) := fun j hj => by
              have h1 := joK_len (u : Int) v t ps j
              rw [← HK.out] at h1
              exact Nat.le_trans h1 (Nat.mul_le_mul_right _ hj)
            have HKL := hid hkl
            clear ht et HTR hkl hkg
            go_wp2
            clear y0 y1 y2 xr q1r
            obtain ⟨wB, rfl⟩ : ∃ wB : World, wB = wr := ⟨_, rfl⟩
            go_loopw [12, 13, 14, 15] (fun v12 v13 v14 v15 wr => ∃ (j q : Nat) (al : Option Addr) (cl : Nat), j ≤ n ∧ Hid (q = (joK u v t ps j).length) ∧ v13 = .int .i64 (j : Int) ∧ v12 = .slice al q cl ∧ wr.ownsRow wB.heap.size 53 2 (.slice al q cl) q (pcells (joK u v t ps j)) ∧ Below wB.heap.size wB wr) (fun _ v13 _ _ _ => n - (intOf v13).toNat)
            case atStart => exact ⟨0, 0, none, 0, Nat.zero_le _, hid rfl, rfl, rfl, World.ownsRow_nil _ _ _ _, Below.refl _ _⟩
            case round =>
              obtain ⟨j, q, al, cl, hj, HQ, rfl, rfl, hown, hbB⟩ := hrel
              have xr := (x0.below hbi).below hbB
              have y0 := xr.cell 0 rfl; have y1 := xr.cell 1 rfl; have y2 := xr.cell 2 rfl
              by_cases hjl : j < n
              · have hjI : (j : Int) < (n : Int) := by omega
                have hql : q ≤ 10000 := by
                  have h1 := HKL.out j (by omega)
                  have h2 := HQ.out
                  omega
                obtain ⟨wo2, rfl⟩ : ∃ wo2 : World, wo2 = wr := ⟨_, rfl⟩
                by_cases hc1 : (j : Int) = (u : Int)
                · have hB0 : ((j : Int) == (u : Int)) = true := by simp [hc1]
                  by_cases hc2 : 0 < t
                  · have HEQ := hid (show oneQ u t j = [((u : Int), t)] by unfold oneQ; rw [if_pos ⟨hc1, hc2⟩])
                    clear hc1
                    have hba := below_one (w := wo2) (.cells #[.int .i64 (u : Int), .int .i64 t] 53)
                    have hcl := Cls.of_bx (Bx.new wo2 #[.int .i64 (u : Int), .int .i64 t] 53)
                    have hown1 := own_below2 hown hba
                    have hge := own_ge2 hown1
                    have hsz := hbB.size
                    clear hown xr
                    go_upto_region 18 with (at_builtin; refine wpList_appAt rfl (.tmp 73) (.tmp 77) 37 rfl wB.heap.size 53 k0 (.agg #[.int .i64 0, .int .i64 0]) 2 16 under37 hk0 kz0 kz1 kz2 rfl (by decide) (.slice al q cl) q _ rfl hown1 (some ⟨wo2.heap.size, 0, none⟩) 1 1 (pcells [((u : Int), t)]) rfl rfl hcl (pcells_one [((u : Int), t)]) (by unfold maxLen; omega) (by omega) (by simp; omega) ?_; intro v3 W3 hown3 hg3 hat)
                    obtain ⟨a3, c3, rfl⟩ := own_slice2 hown3
                    have hb3 : Below wB.heap.size wB W3 := (hbB.trans (hba.mono hsz)).grown hg3 (by simp; omega) hge
                    rw [← pcells_app] at hown3
                    have HQ2 := hid (show q + 1 = (joK u v t ps j ++ [((u : Int), t)]).length by rw [List.length_append, ← HQ.out]; rfl)
                    clear hge hcl hba hg3 hat hbB hown1 y0 y1 y2 HQ hsz
                    have hown := hown3
                    have hbB := hb3
                    have HQ := HQ2
                    clear hown3 hb3 HQ2 hql
                    generalize q + 1 = q at *
                    obtain ⟨al, hal⟩ : ∃ al, al = a3 := ⟨_, rfl⟩
                    obtain ⟨cl, hcl⟩ : ∃ cl, cl = c3 := ⟨_, rfl⟩
                    rw [← hal, ← hcl] at hown ⊢
                    clear hal hcl
                    have hown0 : W3.ownsRow wB.heap.size 53 2 (.slice al q cl) q (pcells ((joK u v t ps j ++ [((u : Int), t)]) ++ (ps.take 0).filter (keepB u v j))) := by
                      rw [List.take_zero, List.filter_nil, List.append_nil]; exact hown
                    have hq0 := hid (show q = ((joK u v t ps j ++ [((u : Int), t)]) ++ (ps.take 0).filter (keepB u v j)).length by rw [List.take_zero, List.filter_nil, List.append_nil]; exact HQ.out)
                    clear hown HQ
                    go_wp2
                    go_loopw [12, 14, 15] (fun v12 v14 v15 wr => ∃ (k2 q : Nat) (al : Option Addr) (cl : Nat), k2 ≤ k ∧ Hid (q = ((joK u v t ps j ++ [((u : Int), t)]) ++ (ps.take k2).filter (keepB u v j)).length) ∧ v14 = .int .i64 (k2 : Int) ∧ v12 = .slice al q cl ∧ wr.ownsRow wB.heap.size 53 2 (.slice al q cl) q (pcells ((joK u v t ps j ++ [((u : Int), t)]) ++ (ps.take k2).filter (keepB u v j))) ∧ Below wB.heap.size wB wr) (fun _ v14 _ _ => k - (intOf v14).toNat)
                    case atStart => exact ⟨0, q, al, cl, Nat.zero_le _, hq0, rfl, rfl, hown0, hbB⟩
                    case round =>
                      clear hown0 hq0 hbB
                      obtain ⟨k2, q, al, cl, hk2, HQ, rfl, rfl, hown, hbB⟩ := hrel
                      have hbr := (hb.trans (hbi.mono hb.size)).trans (hbB.mono (hb.trans (hbi.mono hb.size)).size)
                      have xr := (x0.below hbi).below hbB
                      have q1r := Below.keep hbr q1
                      have hql : q ≤ 10000 := by
                        have h1 := HKL.out j (by omega)
                        have h2 := HQ.out
                        rw [List.length_append, List.length_append] at h2
                        have h3 := List.length_filter_le (keepB u v j) (ps.take k2)
                        rw [List.length_take] at h3
                        have h4 : [((u : Int), t)].length ≤ 1 := by simp
                        omega
                      have y0 := xr.cell 0 rfl; have y1 := xr.cell 1 rfl; have y2 := xr.cell 2 rfl
                      by_cases hkl : k2 < k
                      · have hkI : (k2 : Int) < (k : Int) := by omega
                        have hkz : (0 : Int) ≤ (k2 : Int) := by omega
                        obtain ⟨bq', oq', pq, ea, r1, r2, hqm, htk⟩ := prs_at (hP.below hbr (Nat.le_refl _)) (k := k2) (by rw [← HK.out]; exact hkl)
                        cases ea
                        have hwk : IntKind.i64.wrap ((k2 : Int) + 1) = ((k2 + 1 : Nat) : Int) := by rw [IntWalk.i64_in _ (by omega)]; omega
                        have hba := below_one (w := wr) (.cells #[.int .i64 pq.1, .int .i64 pq.2] 53)
                        have HXc := hid (And.intro (hbB.trans (hba.mono hbB.size)) (And.intro (Bx.new wr #[.int .i64 pq.1, .int .i64 pq.2] 53) (own_below2 hown hba)))
                        have HTK := hid htk.out
                        clear hba htk hqm
                        go_upto_region 22 with fail
                        clear y0 y1 y2 q1r r1 r2 hbB hown xr hbr
                        obtain ⟨hbB, y, hown⟩ := HXc.out
                        clear HXc
                        generalize wr.heap.size = sp at *
                        generalize World.alloc _ _ = Va at *
                        have y0 := y.cell 0 rfl; have y1 := y.cell 1 rfl
                        by_cases hkp : keepB u v j pq = true
                        · have HG := hid (show (ps.take (k2 + 1)).filter (keepB u v j) = (ps.take k2).filter (keepB u v j) ++ [pq] by rw [HTK.out]; exact keep_yes hkp)
                          unfold keepB at hkp
                          simp only [Bool.and_eq_true, decide_eq_true_eq] at hkp
                          obtain ⟨⟨e1, e2⟩, e3⟩ := hkp
                          have hB1 : (pq.1 == (j : Int)) = true := by simp [e1]
                          have hB2 : ((j : Int) != (u : Int)) = true := by simpa using e2
                          have hB3 : ((j : Int) != (v : Int)) = true := by simpa using e3
                          have hba := below_one (w := Va) (.cells #[.int .i64 pq.1, .int .i64 pq.2] 53)
                          have hcl := Cls.of_bx (Bx.new Va #[.int .i64 pq.1, .int .i64 pq.2] 53)
                          have hown1 := own_below2 hown hba
                          have hge := own_ge2 hown1
                          have hsz := hbB.size
                          clear hown e1 e2 e3
                          go_wp2_with (at_builtin; refine wpList_appAt rfl (.tmp 113) (.tmp 115) 37 rfl wB.heap.size 53 k0 (.agg #[.int .i64 0, .int .i64 0]) 2 16 under37 hk0 kz0 kz1 kz2 rfl (by decide) (.slice al q cl) q _ rfl hown1 (some ⟨Va.heap.size, 0, none⟩) 1 1 (pcells [pq]) rfl rfl hcl (pcells_one [pq]) (by unfold maxLen; omega) (by omega) (by simp; omega) ?_; intro v3 W3 hown3 hg3 hat)
                          obtain ⟨a3, c3, rfl⟩ := own_slice2 hown3
                          have hb3 : Below wB.heap.size wB W3 := (hbB.trans (hba.mono hsz)).grown hg3 (by simp; omega) hge
                          have hown4 : W3.ownsRow wB.heap.size 53 2 (.slice a3 (q + 1) c3) (q + 1) (pcells ((joK u v t ps j ++ [((u : Int), t)]) ++ (ps.take (k2 + 1)).filter (keepB u v j))) := by
                            rw [HG.out, ← List.append_assoc, pcells_app _ [pq]]; exact hown3
                          have HQ2 := hid (show q + 1 = ((joK u v t ps j ++ [((u : Int), t)]) ++ (ps.take (k2 + 1)).filter (keepB u v j)).length by rw [HG.out, ← List.append_assoc, List.length_append, ← HQ.out]; rfl)
                          have HX := hid (And.intro hown4 hb3)
                          clear hown3 hown4 hb3 hown1 hge hcl hba hg3 hat hbB y y0 y1 hB1 hB2 hB3
                          go_wp2
                          go_roundw
                          case rel => exact ⟨k2 + 1, q + 1, a3, c3, by omega, HQ2, by go_num, rfl, HX.out.1, HX.out.2⟩
                          case measure => simp [intOf]; omega
                        · have HG := hid (show (ps.take (k2 + 1)).filter (keepB u v j) = (ps.take k2).filter (keepB u v j) by rw [HTK.out]; exact keep_no (by simpa using hkp))
                          have HX := hid (And.intro hown hbB)
                          clear hown hbB y
                          have hc : (pq.1 == (j : Int)) = false ∨ ((pq.1 == (j : Int)) = true ∧ ((j : Int) != (u : Int)) = false) ∨ ((pq.1 == (j : Int)) = true ∧ ((j : Int) != (u : Int)) = true ∧ ((j : Int) != (v : Int)) = false) := by
                            unfold keepB at hkp
                            by_cases e1 : pq.1 = (j : Int)
                            · by_cases e2 : (j : Int) = (u : Int)
                              · exact .inr (.inl ⟨by simp [e1], by simp [e2]⟩)
                              · by_cases e3 : (j : Int) = (v : Int)
                                · exact .inr (.inr ⟨by simp [e1], by simpa using e2, by simp [e3]⟩)
                                · exfalso; apply hkp; simp [e1]; omega
                            · exact .inl (by rw [beq_eq_false_iff_ne]; exact e1)
                          clear hkp
                          rcases hc with hB1 | ⟨hB1, hB2⟩ | ⟨hB1, hB2, hB3⟩
                          · go_wp2
                            go_roundw
                            case rel => exact ⟨k2 + 1, q, al, cl, by omega, hid (by rw [HG.out]; exact HQ.out), by go_num, rfl, by rw [HG.out]; exact HX.out.1, HX.out.2⟩
                            case measure => simp [intOf]; omega
                          · go_wp2
                            go_roundw
                            case rel => exact ⟨k2 + 1, q, al, cl, by omega, hid (by rw [HG.out]; exact HQ.out), by go_num, rfl, by rw [HG.out]; exact HX.out.1, HX.out.2⟩
                            case measure => simp [intOf]; omega
                          · go_wp2
                            go_roundw
                            case rel => exact ⟨k2 + 1, q, al, cl, by omega, hid (by rw [HG.out]; exact HQ.out), by go_num, rfl, by rw [HG.out]; exact HX.out.1, HX.out.2⟩
                            case measure => simp [intOf]; omega
                      · obtain rfl : k2 = k := by omega
                        have hkI : ¬ (k2 : Int) < (k2 : Int) := by omega
                        have HE := hid (show joK u v t ps (j + 1) = (joK u v t ps j ++ [((u : Int), t)]) ++ (ps.take k2).filter (keepB u v j) by
                          rw [joK, HK.out, List.take_length, List.append_assoc, blk, HEQ.out])
                        have HX := hid (And.intro hown hbB)
                        clear hown hbB xr hbr
                        go_wp2
                        clear y0 y1 y2 q1r
                        go_roundw
                        case rel => exact ⟨j + 1, q, al, cl, by omega, hid (by rw [HE.out]; exact HQ.out), by go_num, rfl, by rw [HE.out]; exact HX.out.1, HX.out.2⟩
                        case measure => simp [intOf]; omega
                  · have hB4 : ¬ 0 < t := hc2
                    have HEQ := hid (show oneQ u t j = [] by unfold oneQ; rw [if_neg (fun e => hc2 e.2)])
                    replace HQ := hid (show q = (joK u v t ps j ++ []).length by rw [List.append_nil]; exact HQ.out)
                    rw [← List.append_nil (joK u v t ps j)] at hown
                    clear hc1 hc2 xr hql
                    have hown0 : wo2.ownsRow wB.heap.size 53 2 (.slice al q cl) q (pcells ((joK u v t ps j ++ ([] : List (Int × Int))) ++ (ps.take 0).filter (keepB u v j))) := by
                      rw [List.take_zero, List.filter_nil, List.append_nil]; exact hown
                    have hq0 := hid (show q = ((joK u v t ps j ++ ([] : List (Int × Int))) ++ (ps.take 0).filter (keepB u v j)).length by rw [List.take_zero, List.filter_nil, List.append_nil]; exact HQ.out)
                    clear hown HQ
                    go_wp2
                    go_loopw [12, 14, 15] (fun v12 v14 v15 wr => ∃ (k2 q : Nat) (al : Option Addr) (cl : Nat), k2 ≤ k ∧ Hid (q = ((joK u v t ps j ++ ([] : List (Int × Int))) ++ (ps.take k2).filter (keepB u v j)).length) ∧ v14 = .int .i64 (k2 : Int) ∧ v12 = .slice al q cl ∧ wr.ownsRow wB.heap.size 53 2 (.slice al q cl) q (pcells ((joK u v t ps j ++ ([] : List (Int × Int))) ++ (ps.take k2).filter (keepB u v j))) ∧ Below wB.heap.size wB wr) (fun _ v14 _ _ => k - (intOf v14).toNat)
                    case atStart => exact ⟨0, q, al, cl, Nat.zero_le _, hq0, rfl, rfl, hown0, hbB⟩
                    case round =>
                      clear hown0 hq0 hbB
                      obtain ⟨k2, q, al, cl, hk2, HQ, rfl, rfl, hown, hbB⟩ := hrel
                      have hbr := (hb.trans (hbi.mono hb.size)).trans (hbB.mono (hb.trans (hbi.mono hb.size)).size)
                      have xr := (x0.below hbi).below hbB
                      have q1r := Below.keep hbr q1
                      have hql : q ≤ 10000 := by
                        have h1 := HKL.out j (by omega)
                        have h2 := HQ.out
                        rw [List.length_append, List.length_append] at h2
                        have h3 := List.length_filter_le (keepB u v j) (ps.take k2)
                        rw [List.length_take] at h3
                        have h4 : ([] : List (Int × Int)).length ≤ 1 := by simp
                        omega
                      have y0 := xr.cell 0 rfl; have y1 := xr.cell 1 rfl; have y2 := xr.cell 2 rfl
                      by_cases hkl : k2 < k
                      · have hkI : (k2 : Int) < (k : Int) := by omega
                        have hkz : (0 : Int) ≤ (k2 : Int) := by omega
                        obtain ⟨bq', oq', pq, ea, r1, r2, hqm, htk⟩ := prs_at (hP.below hbr (Nat.le_refl _)) (k := k2) (by rw [← HK.out]; exact hkl)
                        cases ea
                        have hwk : IntKind.i64.wrap ((k2 : Int) + 1) = ((k2 + 1 : Nat) : Int) := by rw [IntWalk.i64_in _ (by omega)]; omega
                        have hba := below_one (w := wr) (.cells #[.int .i64 pq.1, .int .i64 pq.2] 53)
                        have HXc := hid (And.intro (hbB.trans (hba.mono hbB.size)) (And.intro (Bx.new wr #[.int .i64 pq.1, .int .i64 pq.2] 53) (own_below2 hown hba)))
                        have HTK := hid htk.out
                        clear hba htk hqm
                        go_upto_region 22 with fail
                        clear y0 y1 y2 q1r r1 r2 hbB hown xr hbr
                        obtain ⟨hbB, y, hown⟩ := HXc.out
                        clear HXc
                        generalize wr.heap.size = sp at *
                        generalize World.alloc _ _ = Va at *
                        have y0 := y.cell 0 rfl; have y1 := y.cell 1 rfl
                        by_cases hkp : keepB u v j pq = true
                        · have HG := hid (show (ps.take (k2 + 1)).filter (keepB u v j) = (ps.take k2).filter (keepB u v j) ++ [pq] by rw [HTK.out]; exact keep_yes hkp)
                          unfold keepB at hkp
                          simp only [Bool.and_eq_true, decide_eq_true_eq] at hkp
                          obtain ⟨⟨e1, e2⟩, e3⟩ := hkp
                          have hB1 : (pq.1 == (j : Int)) = true := by simp [e1]
                          have hB2 : ((j : Int) != (u : Int)) = true := by simpa using e2
                          have hB3 : ((j : Int) != (v : Int)) = true := by simpa using e3
                          have hba := below_one (w := Va) (.cells #[.int .i64 pq.1, .int .i64 pq.2] 53)
                          have hcl := Cls.of_bx (Bx.new Va #[.int .i64 pq.1, .int .i64 pq.2] 53)
                          have hown1 := own_below2 hown hba
                          have hge := own_ge2 hown1
                          have hsz := hbB.size
                          clear hown e1 e2 e3
                          go_wp2_with (at_builtin; refine wpList_appAt rfl (.tmp 113) (.tmp 115) 37 rfl wB.heap.size 53 k0 (.agg #[.int .i64 0, .int .i64 0]) 2 16 under37 hk0 kz0 kz1 kz2 rfl (by decide) (.slice al q cl) q _ rfl hown1 (some ⟨Va.heap.size, 0, none⟩) 1 1 (pcells [pq]) rfl rfl hcl (pcells_one [pq]) (by unfold maxLen; omega) (by omega) (by simp; omega) ?_; intro v3 W3 hown3 hg3 hat)
                          obtain ⟨a3, c3, rfl⟩ := own_slice2 hown3
                          have hb3 : Below wB.heap.size wB W3 := (hbB.trans (hba.mono hsz)).grown hg3 (by simp; omega) hge
                          have hown4 : W3.ownsRow wB.heap.size 53 2 (.slice a3 (q + 1) c3) (q + 1) (pcells ((joK u v t ps j ++ ([] : List (Int × Int))) ++ (ps.take (k2 + 1)).filter (keepB u v j))) := by
                            rw [HG.out, ← List.append_assoc, pcells_app _ [pq]]; exact hown3
                          have HQ2 := hid (show q + 1 = ((joK u v t ps j ++ ([] : List (Int × Int))) ++ (ps.take (k2 + 1)).filter (keepB u v j)).length by rw [HG.out, ← List.append_assoc, List.length_append, ← HQ.out]; rfl)
                          have HX := hid (And.intro hown4 hb3)
                          clear hown3 hown4 hb3 hown1 hge hcl hba hg3 hat hbB y y0 y1 hB1 hB2 hB3
                          go_wp2
                          go_roundw
                          case rel => exact ⟨k2 + 1, q + 1, a3, c3, by omega, HQ2, by go_num, rfl, HX.out.1, HX.out.2⟩
                          case measure => simp [intOf]; omega
                        · have HG := hid (show (ps.take (k2 + 1)).filter (keepB u v j) = (ps.take k2).filter (keepB u v j) by rw [HTK.out]; exact keep_no (by simpa using hkp))
                          have HX := hid (And.intro hown hbB)
                          clear hown hbB y
                          have hc : (pq.1 == (j : Int)) = false ∨ ((pq.1 == (j : Int)) = true ∧ ((j : Int) != (u : Int)) = false) ∨ ((pq.1 == (j : Int)) = true ∧ ((j : Int) != (u : Int)) = true ∧ ((j : Int) != (v : Int)) = false) := by
                            unfold keepB at hkp
                            by_cases e1 : pq.1 = (j : Int)
                            · by_cases e2 : (j : Int) = (u : Int)
                              · exact .inr (.inl ⟨by simp [e1], by simp [e2]⟩)
                              · by_cases e3 : (j : Int) = (v : Int)
                                · exact .inr (.inr ⟨by simp [e1], by simpa using e2, by simp [e3]⟩)
                                · exfalso; apply hkp; simp [e1]; omega
                            · exact .inl (by rw [beq_eq_false_iff_ne]; exact e1)
                          clear hkp
                          rcases hc with hB1 | ⟨hB1, hB2⟩ | ⟨hB1, hB2, hB3⟩
                          · go_wp2
                            go_roundw
                            case rel => exact ⟨k2 + 1, q, al, cl, by omega, hid (by rw [HG.out]; exact HQ.out), by go_num, rfl, by rw [HG.out]; exact HX.out.1, HX.out.2⟩
                            case measure => simp [intOf]; omega
                          · go_wp2
                            go_roundw
                            case rel => exact ⟨k2 + 1, q, al, cl, by omega, hid (by rw [HG.out]; exact HQ.out), by go_num, rfl, by rw [HG.out]; exact HX.out.1, HX.out.2⟩
                            case measure => simp [intOf]; omega
                          · go_wp2
                            go_roundw
                            case rel => exact ⟨k2 + 1, q, al, cl, by omega, hid (by rw [HG.out]; exact HQ.out), by go_num, rfl, by rw [HG.out]; exact HX.out.1, HX.out.2⟩
                            case measure => simp [intOf]; omega
                      · obtain rfl : k2 = k := by omega
                        have hkI : ¬ (k2 : Int) < (k2 : Int) := by omega
                        have HE := hid (show joK u v t ps (j + 1) = (joK u v t ps j ++ ([] : List (Int × Int))) ++ (ps.take k2).filter (keepB u v j) by
                          rw [joK, HK.out, List.take_length, List.append_assoc, blk, HEQ.out])
                        have HX := hid (And.intro hown hbB)
                        clear hown hbB xr hbr
                        go_wp2
                        clear y0 y1 y2 q1r
                        go_roundw
                        case rel => exact ⟨j + 1, q, al, cl, by omega, hid (by rw [HE.out]; exact HQ.out), by go_num, rfl, by rw [HE.out]; exact HX.out.1, HX.out.2⟩
                        case measure => simp [intOf]; omega
                · have hB0 : ((j : Int) == (u : Int)) = false := by rw [beq_eq_false_iff_ne]; exact hc1
                  have HEQ := hid (show oneQ u t j = [] by unfold oneQ; rw [if_neg (fun e => hc1 e.1)])
                  replace HQ := hid (show q = (joK u v t ps j ++ []).length by rw [List.append_nil]; exact HQ.out)
                  rw [← List.append_nil (joK u v t ps j)] at hown
                  clear hc1 xr hql
                  have hown0 : wo2.ownsRow wB.heap.size 53 2 (.slice al q cl) q (pcells ((joK u v t ps j ++ ([] : List (Int × Int))) ++ (ps.take 0).filter (keepB u v j))) := by
                    rw [List.take_zero, List.filter_nil, List.append_nil]; exact hown
                  have hq0 := hid (show q = ((joK u v t ps j ++ ([] : List (Int × Int))) ++ (ps.take 0).filter (keepB u v j)).length by rw [List.take_zero, List.filter_nil, List.append_nil]; exact HQ.out)
                  clear hown HQ
                  go_wp2
                  go_loopw [12, 14, 15] (fun v12 v14 v15 wr => ∃ (k2 q : Nat) (al : Option Addr) (cl : Nat), k2 ≤ k ∧ Hid (q = ((joK u v t ps j ++ ([] : List (Int × Int))) ++ (ps.take k2).filter (keepB u v j)).length) ∧ v14 = .int .i64 (k2 : Int) ∧ v12 = .slice al q cl ∧ wr.ownsRow wB.heap.size 53 2 (.slice al q cl) q (pcells ((joK u v t ps j ++ ([] : List (Int × Int))) ++ (ps.take k2).filter (keepB u v j))) ∧ Below wB.heap.size wB wr) (fun _ v14 _ _ => k - (intOf v14).toNat)
                  case atStart => exact ⟨0, q, al, cl, Nat.zero_le _, hq0, rfl, rfl, hown0, hbB⟩
                  case round =>
                    clear hown0 hq0 hbB
                    obtain ⟨k2, q, al, cl, hk2, HQ, rfl, rfl, hown, hbB⟩ := hrel
                    have hbr := (hb.trans (hbi.mono hb.size)).trans (hbB.mono (hb.trans (hbi.mono hb.size)).size)
                    have xr := (x0.below hbi).below hbB
                    have q1r := Below.keep hbr q1
                    have hql : q ≤ 10000 := by
                      have h1 := HKL.out j (by omega)
                      have h2 := HQ.out
                      rw [List.length_append, List.length_append] at h2
                      have h3 := List.length_filter_le (keepB u v j) (ps.take k2)
                      rw [List.length_take] at h3
                      have h4 : ([] : List (Int × Int)).length ≤ 1 := by simp
                      omega
                    have y0 := xr.cell 0 rfl; have y1 := xr.cell 1 rfl; have y2 := xr.cell 2 rfl
                    by_cases hkl : k2 < k
                    · have hkI : (k2 : Int) < (k : Int) := by omega
                      have hkz : (0 : Int) ≤ (k2 : Int) := by omega
                      obtain ⟨bq', oq', pq, ea, r1, r2, hqm, htk⟩ := prs_at (hP.below hbr (Nat.le_refl _)) (k := k2) (by rw [← HK.out]; exact hkl)
                      cases ea
                      have hwk : IntKind.i64.wrap ((k2 : Int) + 1) = ((k2 + 1 : Nat) : Int) := by rw [IntWalk.i64_in _ (by omega)]; omega
                      have hba := below_one (w := wr) (.cells #[.int .i64 pq.1, .int .i64 pq.2] 53)
                      have HXc := hid (And.intro (hbB.trans (hba.mono hbB.size)) (And.intro (Bx.new wr #[.int .i64 pq.1, .int .i64 pq.2] 53) (own_below2 hown hba)))
                      have HTK := hid htk.out
                      clear hba htk hqm
                      go_upto_region 22 with fail
                      clear y0 y1 y2 q1r r1 r2 hbB hown xr hbr
                      obtain ⟨hbB, y, hown⟩ := HXc.out
                      clear HXc
                      generalize wr.heap.size = sp at *
                      generalize World.alloc _ _ = Va at *
                      have y0 := y.cell 0 rfl; have y1 := y.cell 1 rfl
                      by_cases hkp : keepB u v j pq = true
                      · have HG := hid (show (ps.take (k2 + 1)).filter (keepB u v j) = (ps.take k2).filter (keepB u v j) ++ [pq] by rw [HTK.out]; exact keep_yes hkp)
                        unfold keepB at hkp
                        simp only [Bool.and_eq_true, decide_eq_true_eq] at hkp
                        obtain ⟨⟨e1, e2⟩, e3⟩ := hkp
                        have hB1 : (pq.1 == (j : Int)) = true := by simp [e1]
                        have hB2 : ((j : Int) != (u : Int)) = true := by simpa using e2
                        have hB3 : ((j : Int) != (v : Int)) = true := by simpa using e3
                        have hba := below_one (w := Va) (.cells #[.int .i64 pq.1, .int .i64 pq.2] 53)
                        have hcl := Cls.of_bx (Bx.new Va #[.int .i64 pq.1, .int .i64 pq.2] 53)
                        have hown1 := own_below2 hown hba
                        have hge := own_ge2 hown1
                        have hsz := hbB.size
                        clear hown e1 e2 e3
                        go_wp2_with (at_builtin; refine wpList_appAt rfl (.tmp 113) (.tmp 115) 37 rfl wB.heap.size 53 k0 (.agg #[.int .i64 0, .int .i64 0]) 2 16 under37 hk0 kz0 kz1 kz2 rfl (by decide) (.slice al q cl) q _ rfl hown1 (some ⟨Va.heap.size, 0, none⟩) 1 1 (pcells [pq]) rfl rfl hcl (pcells_one [pq]) (by unfold maxLen; omega) (by omega) (by simp; omega) ?_; intro v3 W3 hown3 hg3 hat)
                        obtain ⟨a3, c3, rfl⟩ := own_slice2 hown3
                        have hb3 : Below wB.heap.size wB W3 := (hbB.trans (hba.mono hsz)).grown hg3 (by simp; omega) hge
                        have hown4 : W3.ownsRow wB.heap.size 53 2 (.slice a3 (q + 1) c3) (q + 1) (pcells ((joK u v t ps j ++ ([] : List (Int × Int))) ++ (ps.take (k2 + 1)).filter (keepB u v j))) := by
                          rw [HG.out, ← List.append_assoc, pcells_app _ [pq]]; exact hown3
                        have HQ2 := hid (show q + 1 = ((joK u v t ps j ++ ([] : List (Int × Int))) ++ (ps.take (k2 + 1)).filter (keepB u v j)).length by rw [HG.out, ← List.append_assoc, List.length_append, ← HQ.out]; rfl)
                        have HX := hid (And.intro hown4 hb3)
                        clear hown3 hown4 hb3 hown1 hge hcl hba hg3 hat hbB y y0 y1 hB1 hB2 hB3
                        go_wp2
                        go_roundw
                        case rel => exact ⟨k2 + 1, q + 1, a3, c3, by omega, HQ2, by go_num, rfl, HX.out.1, HX.out.2⟩
                        case measure => simp [intOf]; omega
                      · have HG := hid (show (ps.take (k2 + 1)).filter (keepB u v j) = (ps.take k2).filter (keepB u v j) by rw [HTK.out]; exact keep_no (by simpa using hkp))
                        have HX := hid (And.intro hown hbB)
                        clear hown hbB y
                        have hc : (pq.1 == (j : Int)) = false ∨ ((pq.1 == (j : Int)) = true ∧ ((j : Int) != (u : Int)) = false) ∨ ((pq.1 == (j : Int)) = true ∧ ((j : Int) != (u : Int)) = true ∧ ((j : Int) != (v : Int)) = false) := by
                          unfold keepB at hkp
                          by_cases e1 : pq.1 = (j : Int)
                          · by_cases e2 : (j : Int) = (u : Int)
                            · exact .inr (.inl ⟨by simp [e1], by simp [e2]⟩)
                            · by_cases e3 : (j : Int) = (v : Int)
                              · exact .inr (.inr ⟨by simp [e1], by simpa using e2, by simp [e3]⟩)
                              · exfalso; apply hkp; simp [e1]; omega
                          · exact .inl (by rw [beq_eq_false_iff_ne]; exact e1)
                        clear hkp
                        rcases hc with hB1 | ⟨hB1, hB2⟩ | ⟨hB1, hB2, hB3⟩
                        · go_wp2
                          go_roundw
                          case rel => exact ⟨k2 + 1, q, al, cl, by omega, hid (by rw [HG.out]; exact HQ.out), by go_num, rfl, by rw [HG.out]; exact HX.out.1, HX.out.2⟩
                          case measure => simp [intOf]; omega
                        · go_wp2
                          go_roundw
                          case rel => exact ⟨k2 + 1, q, al, cl, by omega, hid (by rw [HG.out]; exact HQ.out), by go_num, rfl, by rw [HG.out]; exact HX.out.1, HX.out.2⟩
                          case measure => simp [intOf]; omega
                        · go_wp2
                          go_roundw
                          case rel => exact ⟨k2 + 1, q, al, cl, by omega, hid (by rw [HG.out]; exact HQ.out), by go_num, rfl, by rw [HG.out]; exact HX.out.1, HX.out.2⟩
                          case measure => simp [intOf]; omega
                    · obtain rfl : k2 = k := by omega
                      have hkI : ¬ (k2 : Int) < (k2 : Int) := by omega
                      have HE := hid (show joK u v t ps (j + 1) = (joK u v t ps j ++ ([] : List (Int × Int))) ++ (ps.take k2).filter (keepB u v j) by
                        rw [joK, HK.out, List.take_length, List.append_assoc, blk, HEQ.out])
                      have HX := hid (And.intro hown hbB)
                      clear hown hbB xr hbr
                      go_wp2
                      clear y0 y1 y2 q1r
                      go_roundw
                      case rel => exact ⟨j + 1, q, al, cl, by omega, hid (by rw [HE.out]; exact HQ.out), by go_num, rfl, by rw [HE.out]; exact HX.out.1, HX.out.2⟩
                      case measure => simp [intOf]; omega
              · obtain rfl : j = n := by omega
                have hjI : ¬ (j : Int) < (j : Int) := by omega
                have hj9 : joK (u : Int) v t ps j = joP j u v ps := by rw [HT.out]; rfl
                have hq := HQ.out
                rw [hj9] at hown hq
                have hjo := HJ1.out
                have hlj := hjo.len
                simp only at hlj
                subst hq
                have hrg : ∀ x ∈ joP j (u : Int) v ps, -9223372036854775808 ≤ x.1 ∧ x.1 ≤ 9223372036854775807 ∧ -9223372036854775808 ≤ x.2 ∧ x.2 ≤ 9223372036854775807 := fun x hx => by
                  have h1 := hjo.who x hx
                  have h2 := hjo.pct x hx
                  omega
                obtain ⟨al', cl', e9, hPj⟩ := Prs.of_own hown (by omega) hrg
                simp only [Value.slice.injEq, true_and] at e9
                obtain ⟨rfl, rfl⟩ := e9
                have hbw := hbi.trans (hbB.mono hbi.size)
                have hbr := hb.trans (hbw.mono hb.size)
                have hcu2 := (hcu.below hbw).up (hi' := wr.heap.size) (Nat.le_trans hcu.hi hbw.size) (Nat.le_refl _)
                have hwB := hbi.size
                have hs7 := x3.lt
                obtain ⟨⟨v9, hv9⟩, hfz, hcu3⟩ := CuM.setPs (c' := cl) hcu2 HMA1.out hPj (by omega) (fun _ ad e => ⟨by have := own_new2 hown ad e; omega, (hown.lt ad.block (by rw [e]; rfl)).2⟩)
                simp only at hcu3
                rw [HMS1.out] at hcu3
                generalize (joP j (u : Int) v ps).length = q at *
                have y3 := (x3.below hbw).other (a := ⟨g, i * 2 + 1, none⟩) (by show s7 ≠ g; omega) (.slice al q cl)
                have y0' := (x0.below hbw).other (a := ⟨g, i * 2 + 1, none⟩) (by show w.heap.size ≠ g; omega) (.slice al q cl)
                have y1' := (x1.below hbw).other (a := ⟨g, i * 2 + 1, none⟩) (by show w.heap.size + 1 ≠ g; omega) (.slice al q cl)
                have yb := hbr.setCell (p := ⟨g, i * 2 + 1, none⟩) (by show w.heap.size ≤ g; omega) (.slice al q cl)
                have HX := hid (And.intro y0' (And.intro y1' (And.intro yb (And.intro y3 (show JoI j u v p S O (some ⟨g, 0, none⟩) b1 c1 d1 (w.heap.size + 2) s7 (i + 1) (wr.setCell ⟨g, i * 2 + 1, none⟩ (.slice al q cl)) from .inr ⟨B0, g, wr.heap.size, rfl, hgs, hlo, hcu3⟩)))))
                have x3r := x3.below hbw
                have z0 := x3r.cell 0 rfl; have z1 := x3r.cell 1 rfl; have z2 := x3r.cell 2 rfl
                clear y0' y1' yb y3 hcu3 hcu2 hPj hown hrg hj9 hjo hlj x3r
                go_wp2
                go_roundw
                case rel =>
                  obtain ⟨y0', y1', yb, y3, hji⟩ := HX.out
                  exact ⟨i + 1, by omega, by go_num, y0', y1', yb, y3, hji⟩
                case measure => simp [intOf]; omega
    · obtain rfl : i = m := by omega
      have hiI : ¬ (i : Int) < (i : Int) := by omega
      have hry : Ry wo a1 b1 p (joS n u v S) O := by
        have h := hji
        rw [HM.out] at h
        exact h.ry (by rw [← HM.out]; omega) (by rw [← HN.out]; omega) hpr
      have hg := gput3 wo (w.heap.size + 1) (.int .i64 p) (.slice a1 i c1) (.slice b1 n d1)
      have zr := HFI.out _ _ _ _ 0 0 _ hry x1 hg
      have z1 := x1.set3 (.int .i64 p) (.slice a1 i c1) (.slice b1 n d1)
      have zb := below_put3 hb (b := w.heap.size + 1) (by omega) (.int .i64 p) (.slice a1 i c1) (.slice b1 n d1)
      have HZ := hid (And.intro zr (And.intro z1 zb))
      have y0 := x3.cell 0 rfl; have y1 := x3.cell 1 rfl; have y2 := x3.cell 2 rfl
      have t0 := x1.cell 0 rfl; have t1 := x1.cell 1 rfl; have t2 := x1.cell 2 rfl
      have f0 := x1.free 0; have f1 := x1.free 1; have f2 := x1.free 2
      clear hg zr z1 zb hry hji x0 x1 x3 hb
      go_wp2_with fail
      obtain ⟨zr, z1, zb⟩ := HZ.out
      clear HZ y0 y1 y2 t0 t1 t2 f0 f1 f2
      generalize World.setCell (World.setCell (World.setCell _ _ _) _ _) _ _ = V4 at *
      have e0 := z1.cell 0 rfl; have e1 := z1.cell 1 rfl; have e2 := z1.cell 2 rfl
      refine bodyPost_ret (v := .agg #[.int .i64 p, .slice a1 i c1, .slice b1 n d1]) ?_ rfl ⟨zb, a1, b1, ⟨c1, d1, rfl⟩, zr⟩
      simp [results, Try.results24, go_sem, e0, e1, e2]
end Go.Proofs.Ytakodllejndfeaa
