import Derived.Test.YtknaljghpfeikaaT55
namespace Go.Proofs.Ytknaljghpfeikaa
open Go.RowKit

theorem pcells_put2A (A : List (Int × Int)) (x : Int × Int) (B : List (Int × Int)) (u t : Int) {k : Nat} (hk : A.length = k) : ((pcells (A ++ x :: B)).set (k * 2) (.int .i64 u)).set (k * 2 + 1) (.int .i64 t) = pcells (A ++ (u, t) :: B) := by
  rw [pcells_put A x B u hk, pcells_app, pcells_app, List.set_append]
  have e := pcells_len A
  rw [hk] at e
  rw [if_neg (by omega), show k * 2 + 1 - (pcells A).length = 1 by omega]
  rfl
theorem own_prsA {w : World} {B n c : Nat} {e : TypeId} {a : Option Addr} {xs : List (Int × Int)} (h : w.ownsRow B e 2 (.slice a n c) n (pcells xs)) (hn : xs.length = n) (hl : n ≤ 1000000) (hb : ∀ x ∈ xs, -9223372036854775808 ≤ x.1 ∧ x.1 ≤ 9223372036854775807 ∧ -9223372036854775808 ≤ x.2 ∧ x.2 ≤ 9223372036854775807) : Prs w a xs := by
  subst hn
  obtain ⟨a', c', e1, hp⟩ := Prs.of_own h (by omega) hb
  injection e1 with e2
  rw [e2]
  exact hp
def arrF (os : List Int) (k : Nat) (p : Int × Int) : Int × Int := arrs 0 (os.take k) p p
theorem arrF_step {os : List Int} {k : Nat} {x : Int} (h : os[k]? = some x) (p : Int × Int) : arrF os (k + 1) p = arr1 k x p (arrF os k p) := by
  have hl : k < os.length := by
    rcases Nat.lt_or_ge k os.length with h1 | h1
    · exact h1
    · rw [List.getElem?_eq_none h1] at h; cases h
  unfold arrF
  rw [take_snocI h, arrs_snoc, List.length_take, Nat.min_eq_left (Nat.le_of_lt hl), Nat.zero_add]
def arrL (os : List Int) (ps : List (Int × Int)) (k i : Nat) : List (Int × Int) := (ps.map (arrF os (k + 1))).take i ++ (ps.map (arrF os k)).drop i
theorem arrL_len (os : List Int) (ps : List (Int × Int)) (k i : Nat) (h : i ≤ ps.length) : (arrL os ps k i).length = ps.length := by simp [arrL]; omega
theorem arrL_end (os : List Int) (ps : List (Int × Int)) (k : Nat) : arrL os ps k ps.length = arrL os ps (k + 1) 0 := by
  unfold arrL
  rw [List.take_of_length_le (by simp), List.drop_eq_nil_iff.2 (by simp), List.append_nil, List.take_zero, List.nil_append, List.drop_zero]
theorem arrL_at {os : List Int} {ps : List (Int × Int)} {k i : Nat} {p : Int × Int} (h : ps[i]? = some p) : ∃ B, arrL os ps k i = (ps.map (arrF os (k + 1))).take i ++ arrF os k p :: B ∧ arrL os ps k (i + 1) = (ps.map (arrF os (k + 1))).take i ++ arrF os (k + 1) p :: B ∧ ((ps.map (arrF os (k + 1))).take i).length = i := by
  have hl : i < ps.length := by
    rcases Nat.lt_or_ge i ps.length with h1 | h1
    · exact h1
    · rw [List.getElem?_eq_none h1] at h; cases h
  have e1 : (ps.map (arrF os k)).drop i = arrF os k p :: (ps.map (arrF os k)).drop (i + 1) := by
    have hil : i < (ps.map (arrF os k)).length := by simpa using hl
    rw [List.drop_eq_getElem_cons hil]
    congr 1
    rw [List.getElem_map]
    rw [List.getElem?_eq_getElem hl] at h
    injection h with h
    rw [h]
  have e2 : (ps.map (arrF os (k + 1)))[i]? = some (arrF os (k + 1) p) := by rw [List.getElem?_map, h]; rfl
  refine ⟨(ps.map (arrF os k)).drop (i + 1), ?_, ?_, ?_⟩
  · unfold arrL; rw [e1]
  · unfold arrL; rw [take_snocI e2, List.append_assoc]; rfl
  · rw [List.length_take, List.length_map]; omega
theorem arrL_zero (os : List Int) (ps : List (Int × Int)) : arrL os ps 0 0 = ps := by
  unfold arrL
  rw [List.take_zero, List.nil_append, List.drop_zero]
  exact (List.map_congr_left (g := id) fun p _ => rfl).trans (List.map_id _)
theorem arrL_ord {n : Nat} {os : List Int} {ps : List (Int × Int)} (hn : n ≤ 6) (hl : os.length = n) (hm : ∀ i : Nat, i < n → (i : Int) ∈ os) (hp : ∀ p ∈ ps, 0 ≤ p.1 ∧ p.1 < 2 * (n : Int)) : arrL os ps n 0 = ordP os ps := by
  unfold arrL ordP
  rw [List.take_zero, List.nil_append, List.drop_zero]
  refine List.map_congr_left fun p h => ?_
  unfold arrF
  rw [List.take_of_length_le (by omega)]
  exact arrs_ord (hp p h) hn hm

structure ArO (b B0 b5 n m : Nat) (ar ap a1 a2 : Option Addr) (cr cp c1 c2 : Nat) (p0 way step : Int) (w : World) (R L : List (Int × Int)) (wr : World) : Prop where
  x0 : Bx wr b #[.slice ar n cr, .int .i64 p0, .int .i64 way, .int .i64 step, .slice ap m cp] 25
  x1 : Bx wr (b + 1) #[.slice none 0 0, .int .i64 0, .int .i64 0, .int .i64 0, .slice none 0 0] 25
  x5 : Bx wr b5 #[.slice a1 n c1, .int .i64 p0, .int .i64 way, .int .i64 step, .slice a2 m c2] 25
  own1 : wr.ownsRow B0 34 2 (.slice a1 n c1) n (pcells R)
  own2 : wr.ownsRow B0 40 2 (.slice a2 m c2) m (pcells L)
  hb : Below w.heap.size w wr
set_option maxRecDepth 100000 in
set_option maxHeartbeats 6000000 in
theorem arranged_any (ao : Option Addr) (co : Nat) (os : List Int) (ar ap : Option Addr) (cr cp : Nat) (rs ps : List (Int × Int)) (p0 way step : Int) (w : World) (hR : Prs w ar rs) (hP : Prs w ap ps) (hO : Ints w ao os) (h6 : rs.length ≤ 6) (hos : ∀ x ∈ os, 0 ≤ x ∧ x < (rs.length : Int)) (hol : os.length = rs.length) (hall : ∀ i : Nat, i < rs.length → (i : Int) ∈ os) (hps : ∀ p ∈ ps, 0 ≤ p.1 ∧ p.1 < 2 * (rs.length : Int)) (hpl : ps.length ≤ 13)
    (hbo : ∀ x ∈ ordR rs os, -9223372036854775808 ≤ x.1 ∧ x.1 ≤ 9223372036854775807 ∧ -9223372036854775808 ≤ x.2 ∧ x.2 ≤ 9223372036854775807) (hbp : ∀ x ∈ ordP os ps, -9223372036854775808 ≤ x.1 ∧ x.1 ≤ 9223372036854775807 ∧ -9223372036854775808 ≤ x.2 ∧ x.2 ≤ 9223372036854775807) :
    Calls Try.prog 35 #[.agg #[.slice ar rs.length cr, .int .i64 p0, .int .i64 way, .int .i64 step, .slice ap ps.length cp], .slice ao os.length co] w (OrdP rs ps os p0 way step w) := by
  obtain ⟨n, hn⟩ : ∃ n, n = rs.length := ⟨_, rfl⟩
  obtain ⟨m, hm⟩ : ∃ m, m = ps.length := ⟨_, rfl⟩
  have HN := hid hn; have HM := hid hm; have HOL := hid (hol.trans hn.symm); have HOS := hid hos; have HPS := hid hps
  have HEND := hid (arrL_ord (by omega) hol hall hps)
  have HBO := hid hbo; have HBP := hid hbp
  rw [hol, ← hn, ← hm]
  rw [← hn] at h6; rw [← hm] at hpl
  have hcp := fun V h1 h2 => copy_any ar ap cr cp rs ps p0 way step V h1 h2 (by have := HN.out; omega) (by have := HM.out; omega)
  unfold CopyP at hcp
  rw [← hn, ← hm] at hcp
  obtain ⟨W, hW, hb, hs, x0, x1⟩ := boxes2 w #[.slice ar n cr, .int .i64 p0, .int .i64 way, .int .i64 step, .slice ap m cp] 25 #[.slice none 0 0, .int .i64 0, .int .i64 0, .int .i64 0, .slice none 0 0] 25
  have c0 := x0.cell 0 rfl; have c1 := x0.cell 1 rfl; have c2 := x0.cell 2 rfl; have c3 := x0.cell 3 rfl; have c4 := x0.cell 4 rfl
  clear hol hall hos hps hbo hbp hn hm
  have hmI : (m : Int) ≤ 13 := by omega
  have hnI : (n : Int) ≤ 6 := by omega
  go_enter Try.func35, Try.ntmps35
  go_wp2_with fail
  refine (hcp _ (hR.below hb (Nat.le_refl _)) (hP.below hb (Nat.le_refl _))).mono ?_
  rintro e W2 ⟨hb1, a1, a2, c1', c2', rfl, own1, own2, hdis⟩
  clear hcp
  have hl1 := own_lt own1; have hl2 := own_lt own2
  obtain ⟨B0, hB0⟩ : ∃ B, B = W.heap.size := ⟨_, rfl⟩
  have hxB : w.heap.size + 1 < B0 := by rw [hB0, hs]; omega
  rw [← hB0] at own1 own2
  replace x0 := x0.below hb1
  replace x1 := x1.below hb1
  replace hb := hb.trans (hb1.mono hb.size)
  obtain ⟨b5, hb5⟩ : ∃ b, W2.heap.size = b := ⟨_, rfl⟩
  have hbx := below_one (w := W2) (.cells #[.slice a1 n c1', .int .i64 p0, .int .i64 way, .int .i64 step, .slice a2 m c2'] 25)
  have hB5 : B0 ≤ b5 := by rw [hB0, ← hb5]; exact hb1.size
  have HL := hid (show ArO w.heap.size B0 b5 n m ar ap a1 a2 cr cp c1' c2' p0 way step w ((ordR rs os).take 0 ++ rs.drop 0) (arrL os ps 0 0) (W2.alloc (.cells #[.slice a1 n c1', .int .i64 p0, .int .i64 way, .int .i64 step, .slice a2 m c2'] 25)) from
    ⟨x0.below hbx, x1.below hbx, Bx.new' hb5 _ _, by simpa using own_below2 own1 hbx, by rw [arrL_zero]; exact own_below2 own2 hbx, hb.trans (hbx.mono hb.size)⟩)
  rw [hb5] at hl1 hl2
  have HD := hid hdis
  clear x0 x1 c0 c1 c2 c3 c4 own1 own2 hb hbx hb1 hB0 hdis hs hW
  go_wp2
  go_loopw [6] (fun v6 wr => ∃ k : Nat, k ≤ n ∧ v6 = .int .i64 (k : Int) ∧ ArO w.heap.size B0 b5 n m ar ap a1 a2 cr cp c1' c2' p0 way step w ((ordR rs os).take k ++ rs.drop k) (arrL os ps k 0) wr) (fun v6 _ => n - (intOf v6).toNat)
  case atStart => exact ⟨0, Nat.zero_le _, rfl, HL.out⟩
  case round =>
    clear HL
    obtain ⟨k, hk, rfl, HR⟩ := hrel
    obtain ⟨x0, x1, x5, own1, own2, hb⟩ := HR
    by_cases hlt : k < n
    · have hkI : (k : Int) < (n : Int) := by omega
      have hk0 : (0 : Int) ≤ (k : Int) := by omega
      obtain ⟨bo, oo, x, rfl, _, hx, _, _, hxk, _⟩ := hO.at (show k < os.length by rw [HOL.out]; exact hlt)
      have hxm := HOS.out x (List.mem_of_getElem? hxk.out)
      obtain ⟨j, rfl⟩ : ∃ j : Nat, x = (j : Int) := ⟨x.toNat, by omega⟩
      have hjr : j < n := by have := HN.out; omega
      obtain ⟨br, or_, u, t, rfl, _, hr1, hr2, hub, htb, hru, _⟩ := hR.at (show j < rs.length by rw [← HN.out]; exact hjr)
      have hjI : (j : Int) < (n : Int) := by omega
      have hj0 : (0 : Int) ≤ (j : Int) := by omega
      obtain ⟨pd, hpd⟩ : ∃ q, rs[k]? = some q := ⟨_, List.getElem?_eq_getElem (show k < rs.length by rw [← HN.out]; exact hlt)⟩
      have hod : (ordR rs os)[k]? = some (u, t) := ordR_at hxk.out hru.out
      have hstep := fun p => arrF_step hxk.out p
      obtain ⟨g1, cap, e2, hg1⟩ : ∃ g1 cap, Value.slice a1 n c1' = .slice (some ⟨g1, 0, none⟩) n cap ∧ B0 ≤ g1 := by
        rcases own1.2 with ⟨_, h0⟩ | ⟨g1, cap, cur, e, hge, _⟩
        · omega
        · exact ⟨g1, cap, e, hge⟩
      simp only [Value.slice.injEq, true_and] at e2
      obtain ⟨rfl, rfl⟩ := e2
      have hg15 := hl1 g1 rfl
      have hA : ((ordR rs os).take k).length = k := by rw [List.length_take, ordR_len, HOL.out]; omega
      have hdr : rs.drop k = pd :: rs.drop (k + 1) := by
        have hil : k < rs.length := by rw [← HN.out]; exact hlt
        rw [List.drop_eq_getElem_cons hil]
        rw [List.getElem?_eq_getElem hil] at hpd
        injection hpd with e
        rw [e]
      have hcell := World.ownsRow.cellAt own1 (k * 2) (by omega)
      have hcell1 := World.ownsRow.cellAt own1 (k * 2 + 1) (by omega)
      have hv0 : (pcells ((ordR rs os).take k ++ rs.drop k))[k * 2]? = some (.int .i64 pd.1) := by rw [hdr]; exact pcells_get _ _ _ hA
      have hv1 : ∃ z, (pcells ((ordR rs os).take k ++ rs.drop k))[k * 2 + 1]? = some z := ⟨_, List.getElem?_eq_getElem (by rw [pcells_len, List.length_append, List.length_drop, hA]; have := HN.out; omega)⟩
      obtain ⟨z1, hv1⟩ := hv1
      rw [hv0] at hcell
      rw [hv1] at hcell1
      have fr0 := own1.frozenAt (k * 2)
      have fr1 := own1.frozenAt (k * 2 + 1)
      have HOD := hid (And.intro hod (And.intro hdr hA))
      have HST := hid hstep
      have hxw := Below.keep hb hx
      clear hod hpd hdr hA hv0 hv1 hxk hru hxm hstep
      go_upto_region 5 with fail
      have hbd := (Below.refl wr.heap.size wr).drew
      have x0d := x0.below hbd; have x1d := x1.below hbd; have x5d := x5.below hbd
      have own1d := own_below2 own1 hbd; have own2d := own_below2 own2 hbd
      have hbb := hb.trans (hbd.mono hb.size)
      have hcd := Below.keep hbd hcell; have hcd1 := Below.keep hbd hcell1
      have fd0 := own1d.frozenAt (k * 2); have fd1 := own1d.frozenAt (k * 2 + 1)
      clear hbd x0 x1 x5 own1 own2 hb hcell hcell1 fr0 fr1 hxw
      refine wp_region_head 11 (fun w' => Bx w' w.heap.size #[.slice (some ⟨br, or_, none⟩) n cr, .int .i64 p0, .int .i64 way, .int .i64 step, .slice ap m cp] 25 ∧ Bx w' b5 #[.slice (some ⟨g1, 0, none⟩) n c1', .int .i64 p0, .int .i64 way, .int .i64 step, .slice a2 m c2'] 25 ∧ w'.cell? ⟨bo, oo + k, none⟩ = some (.int .i64 (j : Int)) ∧ w'.cell? ⟨br, or_ + j * 2, none⟩ = some (.int .i64 u) ∧ w'.cell? ⟨br, or_ + j * 2 + 1, none⟩ = some (.int .i64 t)) (by kernel_rfl) rfl ?_
      generalize wr.drew = Y0 at *
      have S0 := And.intro x0d (And.intro x5d (And.intro (Below.keep hbb hx) (And.intro (Below.keep hbb hr1) (Below.keep hbb hr2))))
      refine HeadAt.take (i := 0) (.pointer (some ⟨b5, 0, none⟩)) rfl (by kernel_rfl) (.inl ⟨rfl, fun _ _ => by simp [go_sem]⟩) S0 ?_
      refine HeadAt.take (i := 1) (.slice (some ⟨g1, 0, none⟩) n c1') rfl (by kernel_rfl) (.inl ⟨rfl, fun w' z => ?_⟩) S0 ?_
      · (have z0 := z.2.1.cell 0 rfl; simp [go_sem, z0])
      refine HeadAt.take (i := 2) (.int .i64 (k : Int)) rfl (by kernel_rfl) (.inl ⟨rfl, fun _ _ => by simp [go_sem]⟩) S0 ?_
      refine HeadAt.take (i := 3) (.pointer (some ⟨w.heap.size, 0, none⟩)) rfl (by kernel_rfl) (.inl ⟨rfl, fun _ _ => by simp [go_sem]⟩) S0 ?_
      simp only [Act.put, List.getElem_toArray, List.getElem_cons_succ, List.getElem_cons_zero, List.setIfInBounds_toArray, List.set_cons_succ, List.set_cons_zero]
      refine HeadAt.take (i := 4) (.slice (some ⟨br, or_, none⟩) n cr) rfl (by kernel_rfl) (.inl ⟨rfl, fun w' z => ?_⟩) S0 ?_
      · (have z0 := z.1.cell 0 rfl; simp [go_sem, z0])
      refine HeadAt.take (i := 5) (.slice (some ⟨bo, oo, none⟩) n co) rfl (by kernel_rfl) (.inl ⟨rfl, fun _ _ => by simp [go_sem]⟩) S0 ?_
      refine HeadAt.take (i := 6) (.int .i64 (k : Int)) rfl (by kernel_rfl) (.inl ⟨rfl, fun _ _ => by simp [go_sem]⟩) S0 ?_
      refine HeadAt.take (i := 7) (.pointer (some ⟨bo, oo + k, none⟩)) rfl (by kernel_rfl) (.inl ⟨rfl, fun w' z => ?_⟩) S0 ?_
      · (simp [go_sem, hkI, hk0])
      simp only [Act.put, List.getElem_toArray, List.getElem_cons_succ, List.getElem_cons_zero, List.setIfInBounds_toArray, List.set_cons_succ, List.set_cons_zero]
      refine HeadAt.take (i := 8) (.int .i64 (j : Int)) rfl (by kernel_rfl) (.inl ⟨rfl, fun w' z => ?_⟩) S0 ?_
      · (simp [go_sem, z.2.2.1])
      refine HeadAt.take (i := 9) (.pointer (some ⟨br, or_ + j * 2, none⟩)) rfl (by kernel_rfl) (.inl ⟨rfl, fun w' z => ?_⟩) S0 ?_
      · (simp [go_sem, hjI, hj0])
      simp only [Act.put, List.getElem_toArray, List.getElem_cons_succ, List.getElem_cons_zero, List.setIfInBounds_toArray, List.set_cons_succ, List.set_cons_zero]
      refine HeadAt.take (i := 10) (.agg #[.int .i64 u, .int .i64 t]) rfl (by kernel_rfl) (.inl ⟨rfl, fun w' z => ?_⟩) S0 ?_
      · (simp [go_sem, z.2.2.2.1, z.2.2.2.2])
      refine HeadAt.done (by kernel_rfl) ?_
      (try simp only [Act.put, List.drop_succ_cons, List.drop_zero, List.getElem_toArray, List.getElem_cons_succ, List.getElem_cons_zero])
      clear S0
      obtain ⟨own3, gs1⟩ := own1d.stored (k * 2) (.int .i64 u)
      have hcd1' : (Y0.setCell ⟨g1, k * 2, none⟩ (.int .i64 u)).cell? ⟨g1, k * 2 + 1, none⟩ = some z1 := by
        have h := World.ownsRow.cellAt own3 (k * 2 + 1) (by omega)
        rw [h, List.getElem?_set, if_neg (by omega)]
        have h2 := World.ownsRow.cellAt own1d (k * 2 + 1) (by omega)
        rw [hcd1] at h2
        exact h2.symm
      have fd2 := own3.frozenAt (k * 2 + 1)
      obtain ⟨own4, gs2⟩ := own3.stored (k * 2 + 1) (.int .i64 t)
      have gs := gtr gs1 gs2
      have HF := hid (show ArO w.heap.size B0 b5 n m (some ⟨br, or_, none⟩) ap (some ⟨g1, 0, none⟩) a2 cr cp c1' c2' p0 way step w ((ordR rs os).take (k + 1) ++ rs.drop (k + 1)) (arrL os ps k 0) _ from
        ⟨x0d.gb gs (fun k hk => by cases hk; omega), x1d.gb gs (fun k hk => by cases hk; omega), x5d.gb gs (fun k hk => by cases hk; omega),
          by rw [take_snocI HOD.out.1, List.append_assoc]; rw [HOD.out.2.1, pcells_put2A _ _ _ _ _ HOD.out.2.2] at own4; exact own4,
          own_keep own2d gs (fun k hk e => by injection e with e; exact HD.out _ rfl (by rw [hk, e])),
          hbb.grown gs hbb.size (fun k hk => by cases hk; omega)⟩)
      clear own3 gs1 own4 gs2 gs x0d x1d x5d own1d own2d hbb
      go_wp2_with fail
      refine NoPanic.normal ?_
      clear hcd hcd1 hcd1' fd0 fd1 fd2
      go_wp2
      go_loopw [7] (fun v7 wr => ∃ i : Nat, i ≤ m ∧ v7 = .int .i64 (i : Int) ∧ ArO w.heap.size B0 b5 n m (some ⟨br, or_, none⟩) ap (some ⟨g1, 0, none⟩) a2 cr cp c1' c2' p0 way step w ((ordR rs os).take (k + 1) ++ rs.drop (k + 1)) (arrL os ps k i) wr) (fun v7 _ => m - (intOf v7).toNat)
      case atStart => exact ⟨0, Nat.zero_le _, rfl, HF.out⟩
      case round =>
        clear HF
        obtain ⟨i, hi, rfl, HR⟩ := hrel
        obtain ⟨x0, x1, x5, own1, own2, hb⟩ := HR
        by_cases hlt2 : i < m
        · have hiI : (i : Int) < (m : Int) := by omega
          have hi0 : (0 : Int) ≤ (i : Int) := by omega
          obtain ⟨bp, op, u2, t2, rfl, _, hp1, hp2, hub2, htb2, hpi, _⟩ := hP.at (show i < ps.length by rw [← HM.out]; exact hlt2)
          have hum := HPS.out (u2, t2) (List.mem_of_getElem? hpi.out)
          rw [← HN.out] at hum
          dsimp only at hum
          obtain ⟨q, rfl⟩ : ∃ q : Nat, u2 = (q : Int) := ⟨u2.toNat, by omega⟩
          obtain ⟨qq, hqq⟩ : ∃ qq, qq = q / 2 := ⟨_, rfl⟩
          obtain ⟨rr, hrr⟩ : ∃ rr, rr = q % 2 := ⟨_, rfl⟩
          have hrr2 : rr < 2 := by omega
          have hqq6 : qq < 6 := by omega
          have hq2 : Int.tdiv (q : Int) 2 = (qq : Int) := by rw [hqq]; rfl
          have hq3 : Int.tmod (q : Int) 2 = (rr : Int) := by rw [hrr]; rfl
          have ew1 : IntKind.i64.wrap (qq : Int) = (qq : Int) := IntWalk.i64_in _ (by omega)
          have ew2 : IntKind.i64.wrap (2 * (k : Int)) = 2 * (k : Int) := IntWalk.i64_in _ (by omega)
          have ew3 : IntKind.i64.wrap (2 * (k : Int) + (rr : Int)) = 2 * (k : Int) + (rr : Int) := IntWalk.i64_in _ (by omega)
          obtain ⟨g2, cap, e2, hg2⟩ : ∃ g2 cap, Value.slice a2 m c2' = .slice (some ⟨g2, 0, none⟩) m cap ∧ B0 ≤ g2 := by
            rcases own2.2 with ⟨_, h0⟩ | ⟨g2, cap, cur, e, hge, _⟩
            · omega
            · exact ⟨g2, cap, e, hge⟩
          simp only [Value.slice.injEq, true_and] at e2
          obtain ⟨rfl, rfl⟩ := e2
          have hg25 := hl2 g2 rfl
          have hne12 : g1 ≠ g2 := fun e => HD.out g1 rfl (by rw [e]; rfl)
          have hpw1 := Below.keep hb hp1
          have hxw := Below.keep hb hx
          obtain ⟨Bt, ha1, ha2, ha3⟩ := arrL_at (os := os) (k := k) hpi.out
          have HA := hid (And.intro ha1 (And.intro ha2 ha3))
          have HQ := hid (And.intro hqq hrr)
          clear ha1 ha2 ha3 hpi hum hqq hrr
          have c0 := x0.cell 0 rfl; have c1 := x0.cell 1 rfl; have c2 := x0.cell 2 rfl; have c3 := x0.cell 3 rfl; have c4 := x0.cell 4 rfl
          go_upto_region 9 with fail
          clear c0 c1 c2 c3 c4
          have hbd := (Below.refl wr.heap.size wr).drew
          have x0d := x0.below hbd; have x1d := x1.below hbd; have x5d := x5.below hbd
          have own1d := own_below2 own1 hbd; have own2d := own_below2 own2 hbd
          have hbb := hb.trans (hbd.mono hb.size)
          clear hbd x0 x1 x5 own1 own2 hb hpw1 hxw
          refine wp_region_head 11 (fun w' => Bx w' w.heap.size #[.slice (some ⟨br, or_, none⟩) n cr, .int .i64 p0, .int .i64 way, .int .i64 step, .slice (some ⟨bp, op, none⟩) m cp] 25 ∧ w'.cell? ⟨bo, oo + k, none⟩ = some (.int .i64 (j : Int)) ∧ w'.cell? ⟨bp, op + i * 2, none⟩ = some (.int .i64 (q : Int))) (by kernel_rfl) rfl ?_
          generalize wr.drew = Y0 at *
          have S0 := And.intro x0d (And.intro (Below.keep hbb hx) (Below.keep hbb hp1))
          refine HeadAt.take (i := 0) (.pointer (some ⟨w.heap.size, 4, none⟩)) rfl (by kernel_rfl) (.inl ⟨rfl, fun _ _ => by simp [go_sem]⟩) S0 ?_
          refine HeadAt.take (i := 1) (.slice (some ⟨bp, op, none⟩) m cp) rfl (by kernel_rfl) (.inl ⟨rfl, fun w' z => ?_⟩) S0 ?_
          · (have z0 := z.1.cell 4 rfl; simp [go_sem, z0])
          refine HeadAt.take (i := 2) (.int .i64 (i : Int)) rfl (by kernel_rfl) (.inl ⟨rfl, fun _ _ => by simp [go_sem]⟩) S0 ?_
          refine HeadAt.take (i := 3) (.pointer (some ⟨bp, op + i * 2, none⟩)) rfl (by kernel_rfl) (.inl ⟨rfl, fun w' z => ?_⟩) S0 ?_
          · (simp [go_sem, hiI, hi0])
          simp only [Act.put, List.getElem_toArray, List.getElem_cons_succ, List.getElem_cons_zero, List.setIfInBounds_toArray, List.set_cons_succ, List.set_cons_zero]
          refine HeadAt.take (i := 4) (.pointer (some ⟨bp, op + i * 2, none⟩)) rfl (by kernel_rfl) (.inl ⟨rfl, fun _ _ => by simp [go_sem]⟩) S0 ?_
          refine HeadAt.take (i := 5) (.int .i64 (q : Int)) rfl (by kernel_rfl) (.inl ⟨rfl, fun w' z => ?_⟩) S0 ?_
          · (simp [go_sem, z.2.2])
          refine HeadAt.take (i := 6) (.int .i64 (qq : Int)) rfl (by kernel_rfl) (.inl ⟨rfl, fun w' z => ?_⟩) S0 ?_
          · (simp [go_sem, hq2, ew1])
          simp only [Act.put, List.getElem_toArray, List.getElem_cons_succ, List.getElem_cons_zero, List.setIfInBounds_toArray, List.set_cons_succ, List.set_cons_zero]
          refine HeadAt.take (i := 7) (.slice (some ⟨bo, oo, none⟩) n co) rfl (by kernel_rfl) (.inl ⟨rfl, fun _ _ => by simp [go_sem]⟩) S0 ?_
          refine HeadAt.take (i := 8) (.int .i64 (k : Int)) rfl (by kernel_rfl) (.inl ⟨rfl, fun _ _ => by simp [go_sem]⟩) S0 ?_
          refine HeadAt.take (i := 9) (.pointer (some ⟨bo, oo + k, none⟩)) rfl (by kernel_rfl) (.inl ⟨rfl, fun w' z => ?_⟩) S0 ?_
          · (simp [go_sem, hkI, hk0])
          refine HeadAt.take (i := 10) (.int .i64 (j : Int)) rfl (by kernel_rfl) (.inl ⟨rfl, fun w' z => ?_⟩) S0 ?_
          · (simp [go_sem, z.2.1])
          simp only [Act.put, List.getElem_toArray, List.getElem_cons_succ, List.getElem_cons_zero, List.setIfInBounds_toArray, List.set_cons_succ, List.set_cons_zero]
          by_cases hqj : qq = j
          · have hqjI : (qq : Int) = (j : Int) := by omega
            have hqB : ((qq : Int) == (j : Int)) = true := by simp; omega
            refine HeadAt.done (by kernel_rfl) ?_
            (try simp only [List.drop_succ_cons, List.drop_zero])
            clear S0
            have fr := own2d.frozenAt (i * 2)
            have hcell := World.ownsRow.cellAt own2d (i * 2) (by omega)
            rw [HA.out.1, pcells_get _ _ _ HA.out.2.2] at hcell
            have HX := hid (And.intro x0d (And.intro x1d (And.intro x5d (And.intro own1d (And.intro own2d hbb)))))
            clear x0d x1d x5d own1d own2d hbb hqjI
            go_upto_region 10 with fail
            (try refine NoPanic.normal ?_)
            (try go_upto_region 10 with fail)
            obtain ⟨x0, x1, x5, own1, own2, hb⟩ := HX.out
            clear HX fr hcell
            have hbd := (Below.refl Y0.heap.size Y0).drew
            have x0d := x0.below hbd; have x1d := x1.below hbd; have x5d := x5.below hbd
            have own1d := own_below2 own1 hbd; have own2d := own_below2 own2 hbd
            have hbb := hb.trans (hbd.mono hb.size)
            clear hbd x0 x1 x5 own1 own2 hb
            refine wp_region_head 13 (fun w' => Bx w' w.heap.size #[.slice (some ⟨br, or_, none⟩) n cr, .int .i64 p0, .int .i64 way, .int .i64 step, .slice (some ⟨bp, op, none⟩) m cp] 25 ∧ Bx w' b5 #[.slice (some ⟨g1, 0, none⟩) n c1', .int .i64 p0, .int .i64 way, .int .i64 step, .slice (some ⟨g2, 0, none⟩) m c2'] 25 ∧ w'.cell? ⟨bp, op + i * 2, none⟩ = some (.int .i64 (q : Int))) (by kernel_rfl) rfl ?_
            generalize Y0.drew = Y1 at *
            have S0 := And.intro x0d (And.intro x5d (Below.keep hbb hp1))
            refine HeadAt.take (i := 0) (.pointer (some ⟨b5, 4, none⟩)) rfl (by kernel_rfl) (.inl ⟨rfl, fun _ _ => by simp [go_sem]⟩) S0 ?_
            refine HeadAt.take (i := 1) (.slice (some ⟨g2, 0, none⟩) m c2') rfl (by kernel_rfl) (.inl ⟨rfl, fun w' z => ?_⟩) S0 ?_
            · (have z0 := z.2.1.cell 4 rfl; simp [go_sem, z0])
            refine HeadAt.take (i := 2) (.int .i64 (i : Int)) rfl (by kernel_rfl) (.inl ⟨rfl, fun _ _ => by simp [go_sem]⟩) S0 ?_
            refine HeadAt.take (i := 3) (.int .i64 (k : Int)) rfl (by kernel_rfl) (.inl ⟨rfl, fun _ _ => by simp [go_sem]⟩) S0 ?_
            simp only [Act.put, List.getElem_toArray, List.getElem_cons_succ, List.getElem_cons_zero, List.setIfInBounds_toArray, List.set_cons_succ, List.set_cons_zero]
            refine HeadAt.take (i := 4) (.int .i64 (2 * (k : Int))) rfl (by kernel_rfl) (.inl ⟨rfl, fun w' z => ?_⟩) S0 ?_
            · (simp [go_sem, ew2])
            refine HeadAt.take (i := 5) (.pointer (some ⟨w.heap.size, 4, none⟩)) rfl (by kernel_rfl) (.inl ⟨rfl, fun _ _ => by simp [go_sem]⟩) S0 ?_
            refine HeadAt.take (i := 6) (.slice (some ⟨bp, op, none⟩) m cp) rfl (by kernel_rfl) (.inl ⟨rfl, fun w' z => ?_⟩) S0 ?_
            · (have z0 := z.1.cell 4 rfl; simp [go_sem, z0])
            refine HeadAt.take (i := 7) (.int .i64 (i : Int)) rfl (by kernel_rfl) (.inl ⟨rfl, fun _ _ => by simp [go_sem]⟩) S0 ?_
            simp only [Act.put, List.getElem_toArray, List.getElem_cons_succ, List.getElem_cons_zero, List.setIfInBounds_toArray, List.set_cons_succ, List.set_cons_zero]
            refine HeadAt.take (i := 8) (.pointer (some ⟨bp, op + i * 2, none⟩)) rfl (by kernel_rfl) (.inl ⟨rfl, fun w' z => ?_⟩) S0 ?_
            · (simp [go_sem, hiI, hi0])
            refine HeadAt.take (i := 9) (.pointer (some ⟨bp, op + i * 2, none⟩)) rfl (by kernel_rfl) (.inl ⟨rfl, fun _ _ => by simp [go_sem]⟩) S0 ?_
            refine HeadAt.take (i := 10) (.int .i64 (q : Int)) rfl (by kernel_rfl) (.inl ⟨rfl, fun w' z => ?_⟩) S0 ?_
            · (simp [go_sem, z.2.2])
            simp only [Act.put, List.getElem_toArray, List.getElem_cons_succ, List.getElem_cons_zero, List.setIfInBounds_toArray, List.set_cons_succ, List.set_cons_zero]
            refine HeadAt.take (i := 11) (.int .i64 (rr : Int)) rfl (by kernel_rfl) (.inl ⟨rfl, fun w' z => ?_⟩) S0 ?_
            · (simp [go_sem, hq3])
            refine HeadAt.take (i := 12) (.int .i64 (2 * (k : Int) + (rr : Int))) rfl (by kernel_rfl) (.inl ⟨rfl, fun w' z => ?_⟩) S0 ?_
            · (simp [go_sem, ew3])
            refine HeadAt.done (by kernel_rfl) ?_
            (try simp only [Act.put, List.drop_succ_cons, List.drop_zero, List.getElem_toArray, List.getElem_cons_succ, List.getElem_cons_zero])
            clear S0 ew1 ew2 ew3 hq2 hq3
            have fr := own2d.frozenAt (i * 2)
            have kc : ∃ z, Y1.cell? ⟨g2, i * 2, none⟩ = some (.int .i64 z) := ⟨_, by
              have h := World.ownsRow.cellAt own2d (i * 2) (by omega)
              rw [h, HA.out.1]
              exact pcells_get _ _ _ HA.out.2.2⟩
            obtain ⟨zk, kc⟩ := kc
            obtain ⟨own4s, gs⟩ := own2d.stored (i * 2) (.int .i64 (2 * (k : Int) + (rr : Int)))
            have HF := hid (show ArO w.heap.size B0 b5 n m (some ⟨br, or_, none⟩) (some ⟨bp, op, none⟩) (some ⟨g1, 0, none⟩) (some ⟨g2, 0, none⟩) cr cp c1' c2' p0 way step w ((ordR rs os).take (k + 1) ++ rs.drop (k + 1)) (arrL os ps k (i + 1)) _ from
              ⟨x0d.gb gs (fun k hk => by cases hk; omega), x1d.gb gs (fun k hk => by cases hk; omega), x5d.gb gs (fun k hk => by cases hk; omega),
                own_keep own1d gs (fun k hk e => by injection e with e; injection hk with hk; exact hne12 ((show g1 = k from hk).trans e.symm)),
                by
                  rw [HA.out.1, pcells_put _ _ _ _ HA.out.2.2] at own4s
                  rw [HA.out.2.1, HST.out]
                  unfold arr1
                  rw [if_pos (by show (q : Int).toNat / 2 = (j : Int).toNat; have := HQ.out; omega)]
                  have e : (((q : Int).toNat % 2 : Nat) : Int) = (rr : Int) := by have := HQ.out; omega
                  dsimp only at own4s ⊢
                  rw [e]
                  exact own4s,
                hbb.grown gs (by have := hbb.size; omega) (fun k hk => by cases hk; omega)⟩)
            clear own4s gs x0d x1d x5d own1d own2d hbb
            go_wp2_with fail
            refine NoPanic.normal ?_
            go_wp2
            go_roundw
            case rel => exact ⟨i + 1, by omega, by go_num, HF.out⟩
            case measure => simp [intOf]; omega
          · have hqjI : ¬ (qq : Int) = (j : Int) := by omega
            have hqB : ((qq : Int) == (j : Int)) = false := by simp; omega
            refine HeadAt.done (by kernel_rfl) ?_
            (try simp only [List.drop_succ_cons, List.drop_zero])
            clear S0 ew1 ew2 ew3 hq2 hq3
            have HF := hid (show ArO w.heap.size B0 b5 n m (some ⟨br, or_, none⟩) (some ⟨bp, op, none⟩) (some ⟨g1, 0, none⟩) (some ⟨g2, 0, none⟩) cr cp c1' c2' p0 way step w ((ordR rs os).take (k + 1) ++ rs.drop (k + 1)) (arrL os ps k (i + 1)) _ from
              ⟨x0d, x1d, x5d, own1d, by
                  rw [HA.out.2.1, HST.out]
                  unfold arr1
                  rw [if_neg (by show ¬ (q : Int).toNat / 2 = (j : Int).toNat; have := HQ.out; omega), ← HA.out.1]
                  exact own2d, hbb⟩)
            clear x0d x1d x5d own1d own2d hbb hqjI
            go_wp2_with fail
            refine NoPanic.normal ?_
            go_wp2
            go_roundw
            case rel => exact ⟨i + 1, by omega, by go_num, HF.out⟩
            case measure => simp [intOf]; omega
        · have him : i = m := by omega
          have hiI : (m : Int) ≤ (i : Int) := by omega
          have HF := hid (show ArO w.heap.size B0 b5 n m (some ⟨br, or_, none⟩) ap (some ⟨g1, 0, none⟩) a2 cr cp c1' c2' p0 way step w ((ordR rs os).take (k + 1) ++ rs.drop (k + 1)) (arrL os ps (k + 1) 0) wr from
            ⟨x0, x1, x5, own1, by
              have e : arrL os ps (k + 1) 0 = arrL os ps k i := by rw [him, HM.out]; exact (arrL_end os ps k).symm
              rw [e]; exact own2, hb⟩)
          have c0 := x0.cell 0 rfl; have c1 := x0.cell 1 rfl; have c2 := x0.cell 2 rfl; have c3 := x0.cell 3 rfl; have c4 := x0.cell 4 rfl
          clear x0 x1 x5 own1 own2 hb him
          go_wp2
          go_roundw
          case rel => exact ⟨k + 1, by omega, by go_num, HF.out⟩
          case measure => simp [intOf]; omega
    · have hkn : k = n := by omega
      have hkI : (n : Int) ≤ (k : Int) := by omega
      have e1 : (ordR rs os).take k ++ rs.drop k = ordR rs os := by
        rw [List.take_of_length_le (by rw [ordR_len, HOL.out]; omega), List.drop_eq_nil_iff.2 (by have := HN.out; omega), List.append_nil]
      have e2 : arrL os ps k 0 = ordP os ps := by rw [hkn, HN.out]; exact HEND.out
      rw [e1] at own1
      rw [e2] at own2
      have q1 := own_prsA own1 (by rw [ordR_len]; exact HOL.out) (by omega) HBO.out
      have q2 := own_prsA own2 (by rw [ordP_len]; exact HM.out.symm) (by omega) HBP.out
      have g2 := gset5 wr (w.heap.size + 1) (.slice a1 n c1') (.int .i64 p0) (.int .i64 way) (.int .i64 step) (.slice a2 m c2')
      have x1'' := x1.set5 (.slice a1 n c1') (.int .i64 p0) (.int .i64 way) (.int .i64 step) (.slice a2 m c2')
      have own1'' := own_keep own1 g2 (fun k hk e => by have := own_ge2 own1 k hk; injection e with e; omega)
      have own2'' := own_keep own2 g2 (fun k hk e => by have := own_ge2 own2 k hk; injection e with e; omega)
      have hbV := hb.grown g2 (by have := hb.size; omega) (fun k hk => by cases hk; omega)
      have r1 := own_prsA own1'' (by rw [ordR_len]; exact HOL.out) (by omega) HBO.out
      have r2 := own_prsA own2'' (by rw [ordP_len]; exact HM.out.symm) (by omega) HBP.out
      have HE := hid (And.intro hbV (And.intro r1 r2))
      have d0 := x1.free 0; have d1 := x1.free 1; have d2 := x1.free 2; have d3 := x1.free 3; have d4 := x1.free 4
      have e0 := x1.cell 0 rfl; have e1 := x1.cell 1 rfl; have e2 := x1.cell 2 rfl; have e3 := x1.cell 3 rfl; have e4 := x1.cell 4 rfl
      have s0 := x5.cell 0 rfl; have s1 := x5.cell 1 rfl; have s2 := x5.cell 2 rfl; have s3 := x5.cell 3 rfl; have s4 := x5.cell 4 rfl
      have y0 := x1''.cell 0 rfl; have y1 := x1''.cell 1 rfl; have y2 := x1''.cell 2 rfl; have y3 := x1''.cell 3 rfl; have y4 := x1''.cell 4 rfl
      clear x0 x1 x5 own1 own2 hb q1 q2 g2 x1'' own1'' own2'' hbV r1 r2 hkn
      go_wp2
      refine bodyPost_ret (v := .agg #[.slice a1 n c1', .int .i64 p0, .int .i64 way, .int .i64 step, .slice a2 m c2']) ?_ rfl ⟨HE.out.1, a1, a2, c1', c2', by rw [ordR_len, ordP_len, HOL.out, HM.out], HE.out.2.1, HE.out.2.2⟩
      simp [results, Try.results35, go_sem, y0, y1, y2, y3, y4]
end Go.Proofs.Ytknaljghpfeikaa
