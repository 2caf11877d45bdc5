import Derived.Test.YthgjjlkdekfdbaaT31
import Derived.Test.YthgjjlkdekfdbaaT29
/-! The reference's Weeks. -/
namespace Go.Proofs.Ythgjjlkdekfdbaa
set_option linter.unusedSimpArgs false
set_option linter.unusedVariables false
open Go Go.RowKit

set_option maxRecDepth 100000 in
set_option maxHeartbeats 4000000 in
theorem refWeeks_bad (ac : Option Addr) (cc : Nat) (cs : List Cl) (L : Int) (a : Option Addr) (c : Nat) (ts : List Int) (w : World) (hX : Clz w ac cs) (hI : Ints w a ts) (h0 : wkE cs L ts ≠ 0) : Calls Try.prog 29 #[.agg #[.slice ac cs.length cc, .int .i64 L], .slice a ts.length c] w fun e w' => e = .returned (.tuple #[.slice none 0 0, .int .i64 0, .int .i64 (wkE cs L ts)]) ∧ Below w.heap.size w w' := by
  obtain ⟨W, hW, hb, hs, x0⟩ := boxes1 w #[.slice ac cs.length cc, .int .i64 L] 24
  have hv := refCheck_any ac cc cs L W (hX.below hb (Nat.le_refl _))
  have hI1 := hI.below hb (Nat.le_refl _)
  have hlen := hI.len
  clear hX hs
  unfold wkE at h0 ⊢
  obtain ⟨al, hal⟩ : ∃ al, al = ts.all cenB := ⟨_, rfl⟩
  rw [← hal] at h0 ⊢
  have HAL := hid hal
  generalize shB cs L = r at *
  obtain ⟨n, hn⟩ : ∃ n, n = ts.length := ⟨_, rfl⟩
  rw [← hn] at h0 hlen ⊢
  have HN := hid hn
  clear hn hal
  have c0 := x0.cell 0 rfl; have c1 := x0.cell 1 rfl
  go_enter Try.func29, Try.ntmps29
  cases r
  · rw [show cod false = 90 from rfl] at hv
    clear h0
    go_wp2_with fail
    refine hv.mono ?_
    rintro e V1 ⟨rfl, hb1⟩
    replace hb := hb.trans (hb1.mono hb.size)
    clear c0 c1 x0 hb1 hv
    go_wp2
    ((try simp only [Exit.inBlock, Exit.then]); refine bodyPost_ret (results_tmp3 rfl _ _ _) rfl ?_)
    exact ⟨rfl, hb⟩
  · rw [show cod true = 0 from rfl] at hv
    by_cases h6 : 6 < n
    · have h6I : (6 : Int) < (n : Int) := by omega
      simp only [h6, if_true, Bool.true_eq_false, if_false] at h0 ⊢
      clear h0
      go_wp2_with fail
      refine hv.mono ?_
      rintro e V1 ⟨rfl, hb1⟩
      replace hb := hb.trans (hb1.mono hb.size)
      clear c0 c1 x0 hb1 hv
      go_wp2
      ((try simp only [Exit.inBlock, Exit.then]); refine bodyPost_ret (results_tmp3 rfl _ _ _) rfl ?_)
      exact ⟨rfl, hb⟩
    · have h6I : (n : Int) ≤ 6 := by omega
      simp only [h6, Bool.true_eq_false, if_false] at h0 ⊢
      obtain rfl : al = false := by
        cases al
        · rfl
        · simp at h0
      simp only [if_true]
      clear h0
      go_wp2_with fail
      refine hv.mono ?_
      rintro e V1 ⟨rfl, hb1⟩
      have hI2 := hI1.below hb1 (Nat.le_refl _)
      replace hb := hb.trans (hb1.mono hb.size)
      have hce := fun x => IsCents_any x V1
      clear c0 c1 x0 hb1 hv hI hI1
      go_wp2
      go_loopw [8] (fun v8 wr => ∃ k : Nat, k ≤ n ∧ v8 = .int .i64 (k : Int) ∧ Hid ((ts.take k).all cenB = true) ∧ wr = V1) (fun v8 _ => n - (intOf v8).toNat)
      case atStart => exact ⟨0, Nat.zero_le _, rfl, hid rfl, rfl⟩
      case round =>
        obtain ⟨k, hk, rfl, HA, rfl⟩ := hrel
        by_cases hlt : k < n
        · obtain ⟨b, off, y, rfl, hbl, hc, hx1, hx2, hg, _⟩ := hI2.at (k := k) (by rw [← HN.out]; exact hlt)
          have hkI : (k : Int) < n := by omega
          have hk0 : (0 : Int) ≤ (k : Int) := by omega
          have hcy := hce y
          cases he : cenB y
          · rw [he] at hcy
            clear he hg hce
            go_wp2_with fail
            refine hcy.mono ?_
            rintro e V2 ⟨rfl, rfl⟩
            go_wp2
            ((try simp only [Exit.inBlock, Exit.then]); refine bodyPost_ret (results_tmp3 rfl _ _ _) rfl ?_)
            exact ⟨rfl, hb⟩
          · rw [he] at hcy
            have HR := hid (show (ts.take (k + 1)).all cenB = true by rw [List.take_add_one, hg.out, List.all_append, HA.out]; simp [he])
            clear he hg hce
            go_wp2_with fail
            refine hcy.mono ?_
            rintro e V2 ⟨rfl, rfl⟩
            go_wp2
            go_roundw
            case rel => exact ⟨k + 1, by omega, by simp, HR, trivial⟩
            case measure => simp [intOf]; omega
        · exfalso
          have hkm : k = n := by omega
          have := HA.out
          rw [hkm, HN.out, List.take_length, ← HAL.out] at this
          cases this

def wsF (Y0 : World) (n : Nat) (u : Wk) : Nat → Value → World → Prop
  | 5, v, _ => ∃ (a : Option Addr) (c : Nat), v = .tuple #[.slice a n c, .agg #[.int .i64 u.op, .int .i64 u.ow, .int .i64 u.rp]]
  | 6, v, _ => ∃ (a : Option Addr) (c : Nat), v = .tuple #[.slice a n c, .agg #[.int .i64 u.op, .int .i64 u.ow, .int .i64 u.rp]]
  | 7, v, _ => ∃ (a : Option Addr) (c : Nat), v = .slice a n c
  | 8, v, _ => v = .agg #[.int .i64 u.op, .int .i64 u.ow, .int .i64 u.rp]
  | 10, v, _ => ∃ (a : Option Addr) (c : Nat), v = .slice a n c
  | _, v, w => ∃ b : Nat, v = .pointer (some ⟨b, 0, none⟩) ∧ Y0.heap.size ≤ b ∧ Bx w b #[.int .i64 0, .int .i64 0, .int .i64 0] 33
theorem wsF_below (Y0 : World) (n : Nat) (u : Wk) (j : Nat) (v : Value) (w1 w2 : World) (h : wsF Y0 n u j v w1) (hb : Below w1.heap.size w1 w2) : wsF Y0 n u j v w2 := by
  unfold wsF at h ⊢
  split at h
  · exact h
  · exact h
  · exact h
  · exact h
  · exact h
  · obtain ⟨b, h1, h2, h3⟩ := h
    exact ⟨b, h1, h2, h3.below hb⟩

set_option maxRecDepth 100000 in
set_option maxHeartbeats 8000000 in
theorem refWeeks_ok (ac : Option Addr) (cc : Nat) (cs : List Cl) (L : Int) (a : Option Addr) (c : Nat) (ts : List Int) (w : World) (hX : Clz w ac cs) (hI : Ints w a ts) (h : wkE cs L ts = 0) : Calls Try.prog 29 #[.agg #[.slice ac cs.length cc, .int .i64 L], .slice a ts.length c] w fun e w' => ∃ (a2 : Option Addr) (c2 : Nat), e = .returned (.tuple #[.slice a2 (wkL cs L ts).length c2, .int .i64 (wkO cs L ts), .int .i64 0]) ∧ Spl w' a2 (wkL cs L ts) ∧ (wkL cs L ts).length ≤ c2 ∧ Below w.heap.size w w' := by
  obtain ⟨j0, hj0, jz0, jz1, jz2⟩ := info_parts info33i
  obtain ⟨W, hW, hb, hs, x0⟩ := boxes1 w #[.slice ac cs.length cc, .int .i64 L] 24
  obtain ⟨h1, h2, h3⟩ := wkE_zero.1 h
  have hv := refCheck_any ac cc cs L W (hX.below hb (Nat.le_refl _))
  have hcp := fun V hh => Copy_any ac cc cs L V hh
  rw [h1, show cod true = 0 from rfl] at hv
  obtain ⟨h5, hcs, hL⟩ := shB_ok h1
  have hce := fun (y : Int) (V : World) (hy : y ∈ ts) => (List.all_eq_true.1 h3 y hy) ▸ IsCents_any y V
  have htr : ∀ t ∈ ts, 0 ≤ t ∧ t ≤ 1000000 := fun t ht => by
    have := List.all_eq_true.1 h3 t ht
    rw [cenB_iff] at this
    omega
  have hset : ∀ (k : Nat) (t : Int), ts[k]? = some t → ∃ u : Wk, wkL cs L (ts.take (k + 1)) = wkL cs L (ts.take k) ++ [u] ∧ wkO cs L (ts.take (k + 1)) = u.owed ∧ IntKind.i64.wrap (wkO cs L (ts.take k) - u.rp) = u.owed ∧ ∀ (a5 : Option Addr) (c5 : Nat) (V : World), Clz V a5 cs → Calls Try.prog 54 #[.agg #[.slice a5 cs.length c5, .int .i64 (wkO cs L (ts.take k))], .int .i64 t, .int .i64 0] V fun e w' => ∃ (a9 : Option Addr) (c9 : Nat), e = .returned (.tuple #[.slice a9 cs.length c9, .agg #[.int .i64 u.op, .int .i64 u.ow, .int .i64 u.rp]]) ∧ Below V.heap.size V w' := fun k t hk => by
    have ht := htr t (List.mem_of_getElem? hk)
    have hr := wkO_rng L (ts.take k) hcs (by omega) (fun x hx => htr x (List.mem_of_mem_take hx))
    have ho : Ok cs (wkO cs L (ts.take k)) t := ⟨hcs, by omega, ht⟩
    have hf := ho.fin
    have e1 := hf.loan; have e2 := hf.owed; have e3 := hf.rp
    refine ⟨settledW (wkO cs L (ts.take k)) cs t, ?_, ?_, ?_, fun a5 c5 V hV => (Gone0_any a5 c5 cs (wkO cs L (ts.take k)) t ho (by omega) V hV _ rfl).mono fun e w' ⟨a9, c9, q1, _, q2⟩ => ⟨a9, c9, q1, q2⟩⟩
    · rw [List.take_add_one, hk, wkL_app]; rfl
    · rw [List.take_add_one, hk, wkO_app]; rfl
    · rw [IntWalk.i64_in _ (by omega)]; omega
  have hL0 : wkL cs L (ts.take 0) = [] := rfl
  have hO0 : wkO cs L (ts.take 0) = L := rfl
  have hXX := hX
  have hII := hI
  obtain ⟨n, hn⟩ : ∃ n, n = cs.length := ⟨_, rfl⟩
  rw [← hn] at x0 hW hset hv hcp ⊢
  obtain ⟨m, hm⟩ : ∃ m, m = ts.length := ⟨_, rfl⟩
  rw [← hm] at h2 ⊢
  have HM := hid hm
  have hmI : (m : Int) ≤ 6 := by omega
  have hLf : wkL cs L (ts.take m) = wkL cs L ts := by rw [hm, List.take_length]
  have hOf : wkO cs L (ts.take m) = wkO cs L ts := by rw [hm, List.take_length]
  have hLl : (wkL cs L ts).length = m := by rw [wkL_len, hm]
  clear h h1 h3 h5 hcs hL htr hX hI hn hm
  obtain ⟨QL, hQL⟩ : ∃ q : Nat → List Wk, ∀ k, q k = wkL cs L (ts.take k) := ⟨_, fun _ => rfl⟩
  obtain ⟨QO, hQO⟩ : ∃ q : Nat → Int, ∀ k, q k = wkO cs L (ts.take k) := ⟨_, fun _ => rfl⟩
  simp only [← hQL, ← hQO] at hset hL0 hO0 hLf hOf
  clear hQL hQO
  obtain ⟨UL, hUL⟩ : ∃ u, u = wkL cs L ts := ⟨_, rfl⟩
  obtain ⟨OL, hOL⟩ : ∃ u, u = wkO cs L ts := ⟨_, rfl⟩
  rw [← hUL] at hLf hLl ⊢
  rw [← hOL] at hOf ⊢
  rw [hLl]
  have HLF := hid hLf; have HOF := hid hOf; have HLL := hid hLl; have HL0 := hid hL0; have HO0 := hid hO0
  clear hUL hOL hLf hOf hLl hL0 hO0
  have hI1 := hII.below hb (Nat.le_refl _)
  have c0 := x0.cell 0 rfl; have c1 := x0.cell 1 rfl
  go_enter Try.func29, Try.ntmps29
  go_wp2_with fail
  refine hv.mono ?_
  rintro e V1 ⟨rfl, hb1⟩
  have hI2 := hI1.below hb1 (Nat.le_refl _)
  replace hb := hb.trans (hb1.mono hb.size)
  replace x0 := x0.below hb1
  clear c0 c1 hb1 hv hI1 hs hW
  go_wp2
  go_loopw [4, 8] (fun v4 v8 wr => ∃ k : Nat, k ≤ m ∧ v8 = .int .i64 (k : Int) ∧ v4 = .slice none 0 0 ∧ wr = V1) (fun _ v8 _ => m - (intOf v8).toNat)
  case atStart => exact ⟨0, Nat.zero_le _, rfl, rfl, rfl⟩
  case round =>
    obtain ⟨k, hk, rfl, rfl, rfl⟩ := hrel
    by_cases hlt : k < m
    · obtain ⟨b, off, y, rfl, hbl, hc, hx1, hx2, hg, _⟩ := hI2.at (k := k) (by rw [← HM.out]; exact hlt)
      have hkI : (k : Int) < m := by omega
      have hk0 : (0 : Int) ≤ (k : Int) := by omega
      have hcy := hce y wr (List.mem_of_getElem? hg.out)
      clear hg hce hset hcp
      go_wp2_with fail
      refine hcy.mono ?_
      rintro e V2 ⟨rfl, rfl⟩
      go_wp2
      go_roundw
      case rel => exact ⟨k + 1, by omega, by simp, rfl, trivial⟩
      case measure => simp [intOf]; omega
    · have hkI : ¬ (k : Int) < m := by omega
      have hX2 := hXX.below hb (Nat.le_refl _)
      clear hce hI2
      have c0 := x0.cell 0 rfl; have c1 := x0.cell 1 rfl
      go_wp2_with fail
      refine (hcp _ hX2).mono ?_
      rintro e V3 ⟨a5, c5, rfl, hC, _, hb1⟩
      replace hb := hb.trans (hb1.mono hb.size)
      clear c0 c1 x0 hb1 hcp hX2 hk hlt
      rw [← HO0.out]
      have hba := below_one (w := V3) (.cells #[.slice a5 n c5, .int .i64 (QO 0)] 24)
      have hC0 : ∀ V, Below V3.heap.size V3 V → Clz V a5 cs := fun V hv => hC.below hv (Nat.le_refl _)
      have HXa := hid (And.intro (hb.trans (hba.mono hb.size)) (And.intro hba (And.intro (Bx.new V3 #[.slice a5 n c5, .int .i64 (QO 0)] 24) (And.intro hb.size hC0))))
      clear hba hb hC hC0
      go_upto_region 13 with fail
      obtain ⟨hb, hb3, x0, hs3, hC0⟩ := HXa.out
      clear HXa
      generalize V3.heap.size = s3 at *
      generalize World.alloc _ _ = V4 at *
      have hs4 : s3 + 1 ≤ V4.heap.size := x0.lt
      go_loopw [4, 10, 11, 12] (fun v4 v10 v11 v12 wr => ∃ (k : Nat) (av : Option Addr) (cv : Nat), k ≤ m ∧ v10 = .int .i64 (k : Int) ∧ v4 = .slice av k cv ∧ wr.ownsRow (s3 + 1) 33 3 (.slice av k cv) k (scells (QL k)) ∧ Bx wr s3 #[.slice a5 n c5, .int .i64 (QO k)] 24 ∧ Below s3 V3 wr ∧ Below w.heap.size w wr ∧ s3 + 1 ≤ wr.heap.size) (fun _ v10 _ _ _ => m - (intOf v10).toNat)
      case atStart => exact ⟨0, none, 0, Nat.zero_le _, rfl, rfl, by rw [HL0.out]; exact World.ownsRow_nil _ _ _ _, x0, hb3, hb, hs4⟩
      case round =>
        clear x0 hb hs4 hb3
        obtain ⟨i, av, cv, hi, rfl, rfl, own, x0, hb3, hb, sz⟩ := hrel
        by_cases hlt : i < m
        · obtain ⟨b, off, t, rfl, hbl, hc, _, _, hg, _⟩ := (hII.below hb (Nat.le_refl _)).at (k := i) (by rw [← HM.out]; exact hlt)
          have hiI : (i : Int) < (m : Int) := by omega
          have hi0 : (0 : Int) ≤ (i : Int) := by omega
          obtain ⟨u, hq1, hq2, hq3, hst⟩ := hset i t hg.out
          have HQ1 := hid hq1; have HQ2 := hid hq2
          obtain ⟨lo, hlo⟩ : ∃ lo, lo = QO i := ⟨_, rfl⟩
          rw [← hlo] at x0 hst hq3
          obtain ⟨ql, hql⟩ : ∃ ql, ql = QL i := ⟨_, rfl⟩
          rw [← hql] at own hq1
          have HQL := hid hql
          clear hlo hql hq1 hq2 hg hset hbl
          go_upto_region 15 with fail
          have hbd := (Below.refl wr.heap.size wr).drew
          have S0 : bestS wr.drew s3 #[.slice a5 n c5, .int .i64 lo] ⟨b, off + i, none⟩ (.int .i64 t) wr.drew := ⟨x0.below hbd, Below.refl _ _, Below.keep hbd hc⟩
          have hbw := hb.trans (hbd.mono hb.size)
          have hb3w := hb3.trans (hbd.mono (by omega))
          have ownw := own_below2 own hbd
          have szw : s3 + 1 ≤ wr.drew.heap.size := sz
          replace x0 := x0.below hbd
          clear hb hb3 own sz hbd hc
          refine wp_region_head 11 (bestS wr.drew s3 #[.slice a5 n c5, .int .i64 lo] ⟨b, off + i, none⟩ (.int .i64 t)) (by kernel_rfl) rfl ?_
          generalize wr.drew = Y0 at *
          refine HeadAt.take (i := 0) (.agg #[.slice a5 n c5, .int .i64 lo]) rfl (by kernel_rfl) (.inl ⟨rfl, fun w' z => ?_⟩) S0 ?_
          · (have z0 := z.1.cell 0 rfl; have z1 := z.1.cell 1 rfl; simp [go_sem, z0, z1])
          refine HeadAt.take (i := 1) (.slice (some ⟨b, off, none⟩) m c) rfl (by kernel_rfl) (.inl ⟨rfl, fun _ _ => by simp [go_sem]⟩) S0 ?_
          refine HeadAt.take (i := 2) (.int .i64 (i : Int)) rfl (by kernel_rfl) (.inl ⟨rfl, fun _ _ => by simp [go_sem]⟩) S0 ?_
          (try simp only [Act.put, List.getElem_toArray, List.getElem_cons_succ, List.getElem_cons_zero, List.setIfInBounds_toArray, List.set_cons_succ, List.set_cons_zero])
          refine HeadAt.take (i := 3) (.pointer (some ⟨b, off + i, none⟩)) rfl (by kernel_rfl) (.inl ⟨rfl, fun w' z => ?_⟩) S0 ?_
          · (simp [go_sem, hiI, hi0])
          (try simp only [Act.put, List.getElem_toArray, List.getElem_cons_succ, List.getElem_cons_zero, List.setIfInBounds_toArray, List.set_cons_succ, List.set_cons_zero])
          refine HeadAt.take (i := 4) (.int .i64 t) rfl (by kernel_rfl) (.inl ⟨rfl, fun w' z => ?_⟩) S0 ?_
          · (have z0 := z.2.2; simp [go_sem, z0])
          (try simp only [Act.put, List.getElem_toArray, List.getElem_cons_succ, List.getElem_cons_zero, List.setIfInBounds_toArray, List.set_cons_succ, List.set_cons_zero])
          refine HeadAt.rg (f0 := 0) [5, 6, 7, 8, 9, 10] 6 (fun v => { tmps := #[.agg #[.slice ac n cc, .int .i64 (QO 0)], .slice (some ⟨b, off, none⟩) m c, .pointer (some ⟨w.heap.size, 0, none⟩), undef, .slice av i cv, u5, u6, .int .i64 0, .int .i64 (k : Int), .pointer (some ⟨s3, 0, none⟩), .int .i64 (i : Int), v 10, v 9, .agg #[.slice ac n cc, .int .i64 (QO 0)], .int .i64 0, .int .i64 0, .bool false, undef, .slice (some ⟨b, off, none⟩) m c, .int .i64 (m : Int), .bool (decide ((6 : Int) < (m : Int))), .int .i64 (k : Int), .slice (some ⟨b, off, none⟩) m c, .int .i64 (m : Int), .bool false, u25, u26, u27, u28, u29, u30, u31, u32, .agg #[.slice ac n cc, .int .i64 (QO 0)], .agg #[.slice a5 n c5, .int .i64 (QO 0)], .int .i64 (i : Int), .slice (some ⟨b, off, none⟩) m c, .int .i64 (m : Int), .bool true, u39, u40, v 6, .agg #[.slice a5 n c5, .int .i64 lo], .slice (some ⟨b, off, none⟩) m c, .int .i64 (i : Int), .pointer (some ⟨b, off + i, none⟩), .int .i64 t, v 5, v 7, v 8, u50, u51, u52, u53, u54, u55, u56, u57, u58, u59, undef, undef, undef], defers := [] }) (wsF Y0 n u) (fun i => match i with | 5 => u47 | 6 => u41 | 7 => u48 | 8 => u49 | 9 => u12 | _ => u11) (by kernel_rfl) (fun w1 w2 h hb => bestS_below h hb) (wsF_below Y0 n u) ?step ?done S0
          case step =>
            intro ix hix oo ho v V hS hp
            simp only [List.mem_cons, List.not_mem_nil, or_false] at hix
            generalize hK : Upto _ _ = K0
            rcases hix with rfl | rfl | rfl | rfl | rfl | rfl
            · cases ho
              clear hp
              have q2 := hst a5 c5 V (hC0 V (hb3w.trans (hS.2.1.mono (by omega))))
              go_wp2_with fail
              refine q2.mono ?_
              rintro e V1 ⟨a9, c9, rfl, hb1⟩
              go_wp2_with fail
              subst hK
              exact ⟨_, rfl, hb1, a9, c9, rfl⟩
            · cases ho
              obtain ⟨a9, c9, h5⟩ : wsF Y0 n u 5 (v 5) V := hp 5 (by simp) (by kernel_rfl)
              clear hp
              rw [h5]
              go_wp2_with fail
              subst hK
              exact ⟨_, by simp [Act.put, updU, h5], Below.refl _ _, a9, c9, rfl⟩
            · cases ho
              obtain ⟨a9, c9, h6⟩ : wsF Y0 n u 6 (v 6) V := hp 6 (by simp) (by kernel_rfl)
              clear hp
              rw [h6]
              go_wp2_with fail
              subst hK
              exact ⟨_, by simp [Act.put, updU, h6], Below.refl _ _, a9, c9, rfl⟩
            · cases ho
              obtain ⟨a9, c9, h6⟩ : wsF Y0 n u 6 (v 6) V := hp 6 (by simp) (by kernel_rfl)
              clear hp
              rw [h6]
              go_wp2_with fail
              subst hK
              exact ⟨_, by simp [Act.put, updU, h6], Below.refl _ _, rfl⟩
            · cases ho
              clear hp
              have hb1 := below_one (w := V) (.cells #[.int .i64 0, .int .i64 0, .int .i64 0] 33)
              have hx1 := Bx.new V #[.int .i64 0, .int .i64 0, .int .i64 0] 33
              have HH := hid (And.intro hb1 hx1)
              clear hb1 hx1
              go_wp2_with fail
              subst hK
              exact ⟨_, rfl, HH.out.1, V.heap.size, rfl, hS.2.1.size, HH.out.2⟩
            · cases ho
              obtain ⟨a9, c9, h7⟩ : wsF Y0 n u 7 (v 7) V := hp 7 (by simp) (by kernel_rfl)
              clear hp
              rw [h7]
              go_wp2_with fail
              subst hK
              exact ⟨_, by simp [Act.put, updU, h7], Below.refl _ _, a9, c9, rfl⟩
          case done =>
            intro v V hS hp
            obtain ⟨a5', c5', h5⟩ : wsF Y0 n u 5 (v 5) V := hp 5 (by simp)
            obtain ⟨a6, c6, h6⟩ : wsF Y0 n u 6 (v 6) V := hp 6 (by simp)
            obtain ⟨a7, c7, h7⟩ : wsF Y0 n u 7 (v 7) V := hp 7 (by simp)
            obtain ⟨aa, ca, h10⟩ : wsF Y0 n u 10 (v 10) V := hp 10 (by simp)
            have h8 : v 8 = .agg #[.int .i64 u.op, .int .i64 u.ow, .int .i64 u.rp] := hp 8 (by simp)
            obtain ⟨g, h9, hg, xg⟩ : ∃ g, v 9 = .pointer (some ⟨g, 0, none⟩) ∧ Y0.heap.size ≤ g ∧ Bx V g #[.int .i64 0, .int .i64 0, .int .i64 0] 33 := hp 9 (by simp)
            clear hp hst
            rw [h5, h6, h7, h8, h9, h10]
            refine HeadAt.done (by kernel_rfl) ?_
            (try simp only [Act.put, List.drop_succ_cons, List.drop_zero, List.getElem_toArray, List.getElem_cons_succ, List.getElem_cons_zero])
            have hbV := hS.2.1
            clear hS h5 h6 h7 h8 h9 h10
            have d0 := xg.cell 0 rfl; have d1 := xg.cell 1 rfl; have d2 := xg.cell 2 rfl
            have f0 := xg.free 0; have f1 := xg.free 1; have f2 := xg.free 2
            have z1 := xg.set3 (.int .i64 u.op) (.int .i64 u.ow) (.int .i64 u.rp)
            have z2 := below_put3 hbV (b := g) hg (.int .i64 u.op) (.int .i64 u.ow) (.int .i64 u.rp)
            have HZ := hid (And.intro z1 z2)
            clear z1 z2 xg hbV
            go_wp2_with fail
            refine NoPanic.normal ?_
            obtain ⟨xu, z2⟩ := HZ.out
            clear HZ d0 d1 d2 f0 f1 f2
            generalize World.setCell _ _ _ = V2 at *
            have x1 := x0.below z2
            have bl1 := hbw.trans (z2.mono hbw.size)
            have bm1 := hb3w.trans (z2.mono (by omega))
            have hlt1 : ∀ q, (Value.slice av i cv).ownBlock = some q → q < g := fun q hq => by have := (ownw.lt q hq).2; omega
            have own1 := own_below2 ownw z2
            have sz1 := Nat.le_trans szw z2.size
            clear z2 hbw hb3w ownw szw x0 hC0
            have d0 := xu.cell 0 rfl; have d1 := xu.cell 1 rfl; have d2 := xu.cell 2 rfl
            have hbb := below_one (w := V2) (.cells #[.int .i64 u.op, .int .i64 u.ow, .int .i64 u.rp] 33)
            have hcl := Cls.of_bx (Bx.new V2 #[.int .i64 u.op, .int .i64 u.ow, .int .i64 u.rp] 33)
            have ownb := own_below2 own1 hbb
            have hge := own_ge2 ownb
            have x2 := x1.below hbb
            have xu2 := xu.below hbb
            have bl2 := bl1.trans (hbb.mono bl1.size)
            have bm2 := bm1.trans (hbb.mono (by omega))
            have sz2 := Nat.le_trans sz1 hbb.size
            clear x1 xu bl1 bm1 sz1 own1
            go_wp2_with (at_builtin; refine wpList_app rfl _ _ 42 rfl (s3 + 1) 33 j0 _ 3 24 under42 hj0 jz0 jz1 jz2 rfl (by decide) (.slice av i cv) i (scells ql) rfl ownb (some ⟨V2.heap.size, 0, none⟩) 1 1 (scells [u]) rfl rfl hcl (scells_one _) (by unfold maxLen; omega) (by omega) sz2 ?_; intro v2 V3 own2 hg2
                         have x3 := x2.gb hg2 (fun q hq => by have := hge q hq; omega)
                         have xu3 := xu2.gb hg2 (fun q hq => by have := hlt1 q hq; omega)
                         have bl3 := bl2.grown hg2 (by omega) (fun q hq => by have := hge q hq; omega)
                         have bm3 := bm2.grown hg2 (by omega) (fun q hq => by have := hge q hq; omega)
                         have sz3 := Nat.le_trans sz2 hg2.size
                         clear x2 xu2 bl2 bm2 sz2 hg2 hge hlt1 ownb hcl hbb d0 d1 d2
                         obtain ⟨a2, c2, rfl⟩ := own_slice2 own2
                         have d2 := xu3.cell 2 rfl
                         have f1 := x3.free 1
                         have c1 := x3.cell 1 rfl
                         have hgs : V3.grownBy (V3.setCell ⟨s3, 1, none⟩ (.int .i64 u.owed)) (some s3) := gset V3 _ _
                         have own3 := own_keep own2 hgs (fun q hq e => by have := own_ge2 own2 q hq; injection e with e; omega)
                         have x4 := x3.put2_1 (.int .i64 u.owed)
                         have bl4 := bl3.setCell (p := ⟨s3, 1, none⟩) hs3 (.int .i64 u.owed)
                         have bm4 := bm3.setCell (p := ⟨s3, 1, none⟩) (Nat.le_refl _) (.int .i64 u.owed)
                         have sz4 : s3 + 1 ≤ (V3.setCell ⟨s3, 1, none⟩ (.int .i64 u.owed)).heap.size := by simpa [World.setCell] using sz3
                         have HZ := hid (And.intro own3 (And.intro x4 (And.intro bm4 (And.intro bl4 sz4))))
                         clear own2 own3 x3 x4 bl3 bl4 bm3 bm4 sz3 sz4 hgs xu3)
            obtain ⟨own3, x4, bm4, bl4, sz4⟩ := HZ.out
            rw [← scells_app, HQL.out, ← HQ1.out] at own3
            go_roundw
            case rel => exact ⟨i + 1, a2, c2, by omega, by simp, rfl, own3, by rw [HQ2.out]; exact x4, bm4, bl4, sz4⟩
            case measure => simp [intOf]; omega
        · have him : i = m := by omega
          have hiI : ¬ (i : Int) < (m : Int) := by omega
          rw [him] at own x0
          rw [HLF.out] at own
          rw [HOF.out] at x0
          obtain ⟨a2, c2, he, hS, hcap, _⟩ := Spl.of_own (xs := UL) (by rw [HLL.out]; exact own) (by rw [HLL.out]; omega)
          simp only [Value.slice.injEq] at he
          obtain ⟨rfl, -, rfl⟩ := he
          rw [HLL.out] at hcap
          have HS := hid (And.intro hS hcap)
          subst him
          have e0 := x0.ext 0 rfl; have e1 := x0.ext 1 rfl
          clear own hS hcap
          go_upto_region 18 with fail
          refine wp_region_ext_lit (by kernel_rfl) (by kernel_rfl) ?_
          repeat (quiet_step (fail))
          refine wpQuiet_nil ?_
          intro _ hw'
          obtain ⟨tt, rfl⟩ := hw'
          have hbt := tt.below
          clear e0 e1
          go_wp2
          ((try simp only [Exit.inBlock, Exit.then]); refine bodyPost_ret (results_tmp3 rfl _ _ _) rfl ?_)
          exact ⟨_, _, rfl, HS.out.1.below hbt (Nat.le_refl _), HS.out.2, hb.trans (hbt.mono hb.size)⟩
theorem refWeeks_P (cs : List Cl) (L : Int) (ts : List Int) : WeeksP 29 cs L ts := fun ac cc a c V hX hI => by
  by_cases h : wkE cs L ts = 0
  · have e1 : wkLs cs L ts = wkL cs L ts := by unfold wkLs; rw [if_pos h]
    have e2 : wkOs cs L ts = wkO cs L ts := by unfold wkOs; rw [if_pos h]
    rw [e1, e2, h]
    exact refWeeks_ok ac cc cs L a c ts V hX hI h
  · have e1 : wkLs cs L ts = [] := by unfold wkLs; rw [if_neg h]
    have e2 : wkOs cs L ts = 0 := by unfold wkOs; rw [if_neg h]
    rw [e1, e2]
    exact (refWeeks_bad ac cc cs L a c ts V hX hI h).mono fun e w' hh => ⟨none, 0, hh.1, Spl.nil _ _, Nat.le_refl _, hh.2⟩
end Go.Proofs.Ythgjjlkdekfdbaa
