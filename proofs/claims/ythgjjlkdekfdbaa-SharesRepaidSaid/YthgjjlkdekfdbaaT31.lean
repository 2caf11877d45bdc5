import Derived.Test.YthgjjlkdekfdbaaT30
/-! Weeks. -/
namespace Go.Proofs.Ythgjjlkdekfdbaa
set_option linter.unusedSimpArgs false
set_option linter.unusedVariables false
open Go Go.RowKit

set_option maxRecDepth 100000 in
set_option maxHeartbeats 2000000 in
theorem areCents_any (a : Option Addr) (c : Nat) (l : List Int) (w : World) (hI : Ints w a l) : Calls Try.prog 62 #[.slice a l.length c] w fun e w' => e = .returned (.bool (l.all cenB)) ∧ w = w' := by
  have hlen := hI.len
  obtain ⟨n, hn⟩ : ∃ n, n = l.length := ⟨_, rfl⟩
  rw [← hn] at hlen ⊢
  have HN := hid hn
  obtain ⟨r, hr⟩ : ∃ r, r = l.all cenB := ⟨_, rfl⟩
  rw [← hr]
  have HR0 := hid hr
  have hce := fun x => isCents_any x w
  clear hn hr
  go_enter Try.func62, Try.ntmps62
  go_wp2
  go_loopw [4, 7] (fun v4 v7 wr => ∃ k : Nat, k ≤ n ∧ v7 = .int .i64 (k : Int) ∧ Hid ((l.take k).all cenB = true) ∧ wr = w) (fun _ v7 _ => n - (intOf v7).toNat)
  case atStart => exact ⟨0, Nat.zero_le _, rfl, hid rfl, rfl⟩
  case round =>
    obtain ⟨k, hk, rfl, HA, rfl⟩ := hrel
    by_cases hlt : k < n
    · obtain ⟨b, off, y, rfl, hbl, hc, hx1, hx2, hg, _⟩ := hI.at (k := k) (by rw [← HN.out]; exact hlt)
      have hkI : (k : Int) < n := by omega
      have hk0 : (0 : Int) ≤ (k : Int) := by omega
      have hcy := hce y
      cases he : cenB y
      · rw [he] at hcy
        have HR := hid (show r = false by
          rw [HR0.out, List.all_eq_false]
          exact ⟨y, List.mem_of_getElem? hg.out, by rw [he]; simp⟩)
        clear he hg hce
        go_wp2_with fail
        refine hcy.mono ?_
        rintro e V1 ⟨rfl, rfl⟩
        go_wp2
        go_ret
        exact ⟨ret_bool (by rw [HR.out]), rfl⟩
      · rw [he] at hcy
        have HR := hid (show (l.take (k + 1)).all cenB = true by rw [List.take_add_one, hg.out, List.all_append, HA.out]; simp [he])
        clear he hg hce
        go_wp2_with fail
        refine hcy.mono ?_
        rintro e V1 ⟨rfl, rfl⟩
        go_wp2
        go_roundw
        case rel => exact ⟨k + 1, by omega, by simp, HR, trivial⟩
        case measure => simp [intOf]; omega
    · have hkm : k = n := by omega
      have hkI : ¬ (k : Int) < n := by omega
      have HR := hid (show r = true by rw [HR0.out]; have := HA.out; rwa [hkm, HN.out, List.take_length] at this)
      clear hkm hce
      go_wp2
      go_ret
      exact ⟨ret_bool (by rw [HR.out]), rfl⟩

set_option maxRecDepth 100000 in
set_option maxHeartbeats 4000000 in
theorem Weeks_bad (ac : Option Addr) (cc : Nat) (cs : List Cl) (L : Int) (a : Option Addr) (c : Nat) (ts : List Int) (w : World) (hX : Clz w ac cs) (hI : Ints w a ts) (h0 : wkE cs L ts ≠ 0) : Calls Try.prog 28 #[.agg #[.slice ac cs.length cc, .int .i64 L], .slice a ts.length c] w fun e w' => e = .returned (.tuple #[.slice none 0 0, .int .i64 0, .int .i64 (wkE cs L ts)]) ∧ Below w.heap.size w w' := by
  obtain ⟨W, hW, hb, hs, x0⟩ := boxes1 w #[.slice ac cs.length cc, .int .i64 L] 24
  have hv := valid_any ac cc cs L W (hX.below hb (Nat.le_refl _))
  have hac := fun V h => areCents_any a c ts V h
  have hI1 := hI.below hb (Nat.le_refl _)
  have hlen := hI.len
  clear hX hI hs
  unfold wkE at h0 ⊢
  generalize ts.all cenB = al at *
  generalize shB cs L = r at *
  obtain ⟨n, hn⟩ : ∃ n, n = ts.length := ⟨_, rfl⟩
  rw [← hn] at h0 hac hlen ⊢
  clear hn
  have c0 := x0.cell 0 rfl; have c1 := x0.cell 1 rfl
  go_enter Try.func28, Try.ntmps28
  cases r
  · clear h0 hac
    go_wp2_with fail
    refine hv.mono ?_
    rintro e V1 ⟨rfl, hb1⟩
    replace hb := hb.trans (hb1.mono hb.size)
    clear c0 c1 x0 hb1 hv
    go_wp2
    ((try simp only [Exit.inBlock, Exit.then]); refine bodyPost_ret (results_tmp3 rfl _ _ _) rfl ?_)
    exact ⟨rfl, hb⟩
  · by_cases h6 : 6 < n
    · have h6I : (6 : Int) < (n : Int) := by omega
      simp only [h6, if_true, Bool.true_eq_false, if_false] at h0 ⊢
      clear h0 hac
      go_wp2_with fail
      refine hv.mono ?_
      rintro e V1 ⟨rfl, hb1⟩
      replace hb := hb.trans (hb1.mono hb.size)
      clear c0 c1 x0 hb1 hv
      go_wp2
      ((try simp only [Exit.inBlock, Exit.then]); refine bodyPost_ret (results_tmp3 rfl _ _ _) rfl ?_)
      exact ⟨rfl, hb⟩
    · have h6I : (n : Int) ≤ 6 := by omega
      simp only [h6, Bool.true_eq_false, if_false] at h0 ⊢
      obtain rfl : al = false := by
        cases al
        · rfl
        · simp at h0
      simp only [if_true]
      clear h0
      go_wp2_with fail
      refine hv.mono ?_
      rintro e V1 ⟨rfl, hb1⟩
      have hI2 := hI1.below hb1 (Nat.le_refl _)
      replace hb := hb.trans (hb1.mono hb.size)
      clear c0 c1 x0 hb1 hv
      go_wp2_with fail
      refine (hac _ hI2).mono ?_
      rintro e V2 ⟨rfl, rfl⟩
      clear hac
      go_wp2
      ((try simp only [Exit.inBlock, Exit.then]); refine bodyPost_ret (results_tmp3 rfl _ _ _) rfl ?_)
      exact ⟨rfl, hb⟩

theorem info33i : (Try.prog.info? 33).map (fun i => (i.zero, i.size, i.bytes)) = some (some (.agg #[.int .i64 0, .int .i64 0, .int .i64 0]), 3, 24) := by kernel_rfl
theorem under42 : Try.prog.underlying 42 = some (.slice 33) := by kernel_rfl

set_option maxRecDepth 100000 in
set_option maxHeartbeats 6000000 in
theorem Weeks_ok (ac : Option Addr) (cc : Nat) (cs : List Cl) (L : Int) (a : Option Addr) (c : Nat) (ts : List Int) (w : World) (hX : Clz w ac cs) (hI : Ints w a ts) (h : wkE cs L ts = 0) : Calls Try.prog 28 #[.agg #[.slice ac cs.length cc, .int .i64 L], .slice a ts.length c] w fun e w' => ∃ (a2 : Option Addr) (c2 : Nat), e = .returned (.tuple #[.slice a2 (wkL cs L ts).length c2, .int .i64 (wkO cs L ts), .int .i64 0]) ∧ Spl w' a2 (wkL cs L ts) ∧ (wkL cs L ts).length ≤ c2 ∧ (∀ ad, a2 = some ad → ad = ⟨ad.block, 0, none⟩) ∧ Below w.heap.size w w' := by
  obtain ⟨j0, hj0, jz0, jz1, jz2⟩ := info_parts info33i
  obtain ⟨W, hW, hb, hs, x0⟩ := boxes1 w #[.slice ac cs.length cc, .int .i64 L] 24
  obtain ⟨h1, h2, h3⟩ := wkE_zero.1 h
  have hv := valid_any ac cc cs L W (hX.below hb (Nat.le_refl _))
  have hac := fun V h => areCents_any a c ts V h
  rw [h1] at hv
  rw [h3] at hac
  obtain ⟨_, hcs, hL⟩ := shB_ok h1
  have htr : ∀ t ∈ ts, 0 ≤ t ∧ t ≤ 1000000 := fun t ht => by
    have := List.all_eq_true.1 h3 t ht
    rw [cenB_iff] at this
    omega
  have hset : ∀ (k : Nat) (t : Int) (V : World), ts[k]? = some t → Clz V ac cs → ∃ u : Wk, wkL cs L (ts.take (k + 1)) = wkL cs L (ts.take k) ++ [u] ∧ wkO cs L (ts.take (k + 1)) = u.owed ∧ Calls Try.prog 52 #[.agg #[.slice ac cs.length cc, .int .i64 (wkO cs L (ts.take k))], .int .i64 t] V fun e w' => e = .returned (.agg #[.int .i64 u.op, .int .i64 u.ow, .int .i64 u.rp, .int .i64 u.rest, .int .i64 u.owed]) ∧ Below V.heap.size V w' := fun k t V hk hV => by
    have ht := htr t (List.mem_of_getElem? hk)
    have hr := wkO_rng L (ts.take k) hcs (by omega) (fun x hx => htr x (List.mem_of_mem_take hx))
    have ho : Ok cs (wkO cs L (ts.take k)) t := ⟨hcs, by omega, ht⟩
    refine ⟨settledW (wkO cs L (ts.take k)) cs t, ?_, ?_, settled_any ac cc cs (wkO cs L (ts.take k)) t ho V hV _ rfl⟩
    · rw [List.take_add_one, hk, wkL_app]; rfl
    · rw [List.take_add_one, hk, wkO_app]; rfl
  have hL0 : wkL cs L (ts.take 0) = [] := rfl
  have hO0 : wkO cs L (ts.take 0) = L := rfl
  have hXX := hX
  have hII := hI
  obtain ⟨n, hn⟩ : ∃ n, n = cs.length := ⟨_, rfl⟩
  rw [← hn] at x0 hW hset hv ⊢
  obtain ⟨m, hm⟩ : ∃ m, m = ts.length := ⟨_, rfl⟩
  rw [← hm] at h2 hac ⊢
  have HM := hid hm
  have hmI : (m : Int) ≤ 6 := by omega
  have hLf : wkL cs L (ts.take m) = wkL cs L ts := by rw [hm, List.take_length]
  have hOf : wkO cs L (ts.take m) = wkO cs L ts := by rw [hm, List.take_length]
  have hLl : (wkL cs L ts).length = m := by rw [wkL_len, hm]
  clear h h1 h3 hcs hL htr hX hI hn hm
  have hQLl : ∀ k, k ≤ m → (wkL cs L (ts.take k)).length = k := fun k hk => by rw [wkL_len, List.length_take, ← HM.out]; omega
  obtain ⟨QL, hQL⟩ : ∃ q : Nat → List Wk, ∀ k, q k = wkL cs L (ts.take k) := ⟨_, fun _ => rfl⟩
  obtain ⟨QO, hQO⟩ : ∃ q : Nat → Int, ∀ k, q k = wkO cs L (ts.take k) := ⟨_, fun _ => rfl⟩
  simp only [← hQL, ← hQO] at hset hL0 hO0 hLf hOf hQLl
  clear hQL hQO
  obtain ⟨UL, hUL⟩ : ∃ u, u = wkL cs L ts := ⟨_, rfl⟩
  obtain ⟨OL, hOL⟩ : ∃ u, u = wkO cs L ts := ⟨_, rfl⟩
  rw [← hUL] at hLf hLl ⊢
  rw [← hOL] at hOf ⊢
  rw [hLl]
  have HLF := hid hLf; have HOF := hid hOf; have HLL := hid hLl; have HL0 := hid hL0; have HO0 := hid hO0
  clear hUL hOL hLf hOf hLl hL0 hO0 hQLl
  have hI1 := hII.below hb (Nat.le_refl _)
  have hs1 : w.heap.size + 1 ≤ W.heap.size := x0.lt
  have c0 := x0.cell 0 rfl; have c1 := x0.cell 1 rfl
  go_enter Try.func28, Try.ntmps28
  go_wp2_with fail
  refine hv.mono ?_
  rintro e V1 ⟨rfl, hb1⟩
  have hI2 := hI1.below hb1 (Nat.le_refl _)
  replace hb := hb.trans (hb1.mono hb.size)
  replace x0 := x0.below hb1
  replace hs1 := Nat.le_trans hs1 hb1.size
  clear c0 c1 hb1 hv hI1 hs hW
  go_wp2_with fail
  refine (hac _ hI2).mono ?_
  rintro e V2 ⟨rfl, rfl⟩
  clear hac hI2
  go_wp2
  go_loopw [4, 8, 9, 24] (fun v4 v8 v9 v24 wr => ∃ (k : Nat) (av : Option Addr) (cv : Nat), k ≤ m ∧ v24 = .int .i64 (k : Int) ∧ v4 = .slice av k cv ∧ wr.ownsRow (w.heap.size + 1) 33 3 (.slice av k cv) k (scells (QL k)) ∧ Bx wr w.heap.size #[.slice ac n cc, .int .i64 (QO k)] 24 ∧ Below w.heap.size w wr ∧ w.heap.size + 1 ≤ wr.heap.size) (fun _ _ _ v24 _ => m - (intOf v24).toNat)
  case atStart => exact ⟨0, none, 0, Nat.zero_le _, rfl, rfl, by rw [HL0.out]; exact World.ownsRow_nil _ _ _ _, by rw [HO0.out]; exact x0, hb, hs1⟩
  case round =>
    clear x0 hb hs1
    obtain ⟨k, av, cv, hk, rfl, rfl, own, x0, hb, sz⟩ := hrel
    by_cases hlt : k < m
    · obtain ⟨b, off, t, rfl, hbl, hc, _, _, hg, _⟩ := (hII.below hb (Nat.le_refl _)).at (k := k) (by rw [← HM.out]; exact hlt)
      have hkI : (k : Int) < (m : Int) := by omega
      have hk0 : (0 : Int) ≤ (k : Int) := by omega
      obtain ⟨u, hq1, hq2, hst⟩ := hset k t wr hg.out (hXX.below hb (Nat.le_refl _))
      have HQ1 := hid hq1; have HQ2 := hid hq2
      obtain ⟨lo, hlo⟩ : ∃ lo, lo = QO k := ⟨_, rfl⟩
      rw [← hlo] at x0 hst
      obtain ⟨ql, hql⟩ : ∃ ql, ql = QL k := ⟨_, rfl⟩
      rw [← hql] at own hq1
      have HQL := hid hql
      clear hlo hql hq1 hq2 hg hset hbl
      have c0 := x0.cell 0 rfl; have c1 := x0.cell 1 rfl
      go_wp2_with fail
      refine hst.mono ?_
      rintro e V1 ⟨rfl, hb1⟩
      have x1 := x0.below hb1
      have own1 := own_below2 own hb1
      have bl1 := hb.trans (hb1.mono hb.size)
      have sz1 := Nat.le_trans sz hb1.size
      have hlt1 : ∀ q, (Value.slice av k cv).ownBlock = some q → q < V1.heap.size := fun q hq => (own1.lt q hq).2
      have hba := below_one (w := V1) (.cells #[.int .i64 u.op, .int .i64 u.ow, .int .i64 u.rp, .int .i64 u.rest, .int .i64 u.owed] 70)
      have HXa := hid (And.intro (x1.below hba) (And.intro (own_below2 own1 hba) (And.intro (bl1.trans (hba.mono bl1.size)) (And.intro (Nat.le_trans sz1 hba.size) (And.intro hlt1 (And.intro sz1 (Bx.new V1 #[.int .i64 u.op, .int .i64 u.ow, .int .i64 u.rp, .int .i64 u.rest, .int .i64 u.owed] 70)))))))
      clear c0 c1 x0 own hb sz hst hb1 hc hba x1 own1 bl1 sz1 hlt1
      go_upto_region 11 with fail
      obtain ⟨x1, own1, bl1, sz1, hlt1, hsu, xu⟩ := HXa.out
      clear HXa
      generalize V1.heap.size = su at *
      generalize World.alloc _ _ = V2 at *
      have d0 := xu.cell 0 rfl; have d1 := xu.cell 1 rfl; have d2 := xu.cell 2 rfl; have d3 := xu.cell 3 rfl; have d4 := xu.cell 4 rfl
      have hbb := below_one (w := V2) (.cells #[.int .i64 u.op, .int .i64 u.ow, .int .i64 u.rp] 33)
      have hcl := Cls.of_bx (Bx.new V2 #[.int .i64 u.op, .int .i64 u.ow, .int .i64 u.rp] 33)
      have ownb := own_below2 own1 hbb
      have hge := own_ge2 ownb
      have x2 := x1.below hbb
      have xu2 := xu.below hbb
      have bl2 := bl1.trans (hbb.mono bl1.size)
      have sz2 := Nat.le_trans sz1 hbb.size
      clear x1 xu bl1 sz1 own1
      go_wp2_with (at_builtin; refine wpList_app rfl _ _ 42 rfl (w.heap.size + 1) 33 j0 _ 3 24 under42 hj0 jz0 jz1 jz2 rfl (by decide) (.slice av k cv) k (scells ql) rfl ownb (some ⟨V2.heap.size, 0, none⟩) 1 1 (scells [u]) rfl rfl hcl (scells_one _) (by unfold maxLen; omega) (by omega) sz2 ?_; intro v2 V3 own2 hg2
                   have x3 := x2.gb hg2 (fun q hq => by have := hge q hq; omega)
                   have xu3 := xu2.gb hg2 (fun q hq => by have := hlt1 q hq; omega)
                   have bl3 := bl2.grown hg2 (by omega) (fun q hq => by have := hge q hq; omega)
                   have sz3 := Nat.le_trans sz2 hg2.size
                   clear x2 xu2 bl2 sz2 hg2 hge hlt1 ownb hcl hbb d0 d1 d2 d3 d4
                   obtain ⟨a2, c2, rfl⟩ := own_slice2 own2
                   have d4 := xu3.cell 4 rfl
                   have f1 := x3.free 1
                   have c1 := x3.cell 1 rfl
                   have hgs : V3.grownBy (V3.setCell ⟨w.heap.size, 1, none⟩ (.int .i64 u.owed)) (some w.heap.size) := gset V3 _ _
                   have own3 := own_keep own2 hgs (fun q hq e => by have := own_ge2 own2 q hq; injection e with e; omega)
                   have x4 := x3.put2_1 (.int .i64 u.owed)
                   have bl4 := bl3.setCell (p := ⟨w.heap.size, 1, none⟩) (Nat.le_refl _) (.int .i64 u.owed)
                   have sz4 : w.heap.size + 1 ≤ (V3.setCell ⟨w.heap.size, 1, none⟩ (.int .i64 u.owed)).heap.size := by simpa [World.setCell] using sz3
                   have HZ := hid (And.intro own3 (And.intro x4 (And.intro bl4 sz4)))
                   clear own2 own3 x3 x4 bl3 bl4 sz3 sz4 hgs xu3)
      obtain ⟨own3, x4, bl4, sz4⟩ := HZ.out
      rw [← scells_app, HQL.out, ← HQ1.out] at own3
      go_roundw
      case rel => exact ⟨k + 1, a2, c2, by omega, by simp, rfl, own3, by rw [HQ2.out]; exact x4, bl4, sz4⟩
      case measure => simp [intOf]; omega
    · have hkm : k = m := by omega
      have hkI : ¬ (k : Int) < (m : Int) := by omega
      rw [hkm] at own x0
      rw [HLF.out] at own
      rw [HOF.out] at x0
      obtain ⟨a2, c2, he, hS, hcap, hsh⟩ := Spl.of_own (xs := UL) (by rw [HLL.out]; exact own) (by rw [HLL.out]; omega)
      simp only [Value.slice.injEq] at he
      obtain ⟨rfl, -, rfl⟩ := he
      rw [HLL.out] at hcap
      have HS := hid (And.intro hS (And.intro hcap hsh))
      subst hkm
      have e0 := x0.ext 0 rfl; have e1 := x0.ext 1 rfl
      clear own hS hcap hsh
      go_upto_region 14 with fail
      refine wp_region_ext_lit (by kernel_rfl) (by kernel_rfl) ?_
      repeat (quiet_step (fail))
      refine wpQuiet_nil ?_
      intro _ hw'
      obtain ⟨tt, rfl⟩ := hw'
      have hbt := tt.below
      clear e0 e1
      go_wp2
      ((try simp only [Exit.inBlock, Exit.then]); refine bodyPost_ret (results_tmp3 rfl _ _ _) rfl ?_)
      exact ⟨_, _, rfl, HS.out.1.below hbt (Nat.le_refl _), HS.out.2.1, HS.out.2.2, hb.trans (hbt.mono hb.size)⟩
theorem Weeks_P (cs : List Cl) (L : Int) (ts : List Int) : WeeksP 28 cs L ts := fun ac cc a c V hX hI => by
  by_cases h : wkE cs L ts = 0
  · have e1 : wkLs cs L ts = wkL cs L ts := by unfold wkLs; rw [if_pos h]
    have e2 : wkOs cs L ts = wkO cs L ts := by unfold wkOs; rw [if_pos h]
    rw [e1, e2, h]
    exact (Weeks_ok ac cc cs L a c ts V hX hI h).mono fun e w' ⟨a2, c2, h1, h2, h3, _, h4⟩ => ⟨a2, c2, h1, h2, h3, h4⟩
  · have e1 : wkLs cs L ts = [] := by unfold wkLs; rw [if_neg h]
    have e2 : wkOs cs L ts = 0 := by unfold wkOs; rw [if_neg h]
    rw [e1, e2]
    exact (Weeks_bad ac cc cs L a c ts V hX hI h).mono fun e w' hh => ⟨none, 0, hh.1, Spl.nil _ _, Nat.le_refl _, hh.2⟩
end Go.Proofs.Ythgjjlkdekfdbaa
