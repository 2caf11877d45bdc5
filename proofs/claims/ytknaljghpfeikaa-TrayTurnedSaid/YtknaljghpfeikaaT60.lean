import Derived.Test.YtknaljghpfeikaaT51
import Derived.Test.YtknaljghpfeikaaM11
namespace Go.Proofs.Ytknaljghpfeikaa
open Go.RowKit

theorem pcells_put2A9 (A : List (Int × Int)) (x : Int × Int) (B : List (Int × Int)) (u t : Int) {k : Nat} (hk : A.length = k) : ((pcells (A ++ x :: B)).set (k * 2) (.int .i64 u)).set (k * 2 + 1) (.int .i64 t) = pcells (A ++ (u, t) :: B) := by
  rw [pcells_put A x B u hk, pcells_app, pcells_app, List.set_append]
  have e := pcells_len A
  rw [hk] at e
  rw [if_neg (by omega), show k * 2 + 1 - (pcells A).length = 1 by omega]
  rfl
theorem own_prsA9 {w : World} {B n c : Nat} {e : TypeId} {a : Option Addr} {xs : List (Int × Int)} (h : w.ownsRow B e 2 (.slice a n c) n (pcells xs)) (hn : xs.length = n) (hl : n ≤ 1000000) (hb : ∀ x ∈ xs, -9223372036854775808 ≤ x.1 ∧ x.1 ≤ 9223372036854775807 ∧ -9223372036854775808 ≤ x.2 ∧ x.2 ≤ 9223372036854775807) : Prs w a xs := by
  subst hn
  obtain ⟨a', c', e1, hp⟩ := Prs.of_own h (by omega) hb
  injection e1 with e2
  rw [e2]
  exact hp
theorem rdB_6b9 {rs ps : List (Int × Int)} {p0 way step : Int} (h : trB rs ps p0 way step = true) : rs.length ≤ 6 ∧ ps.length ≤ 12 ∧ 1 ≤ rs.length := by
  unfold trB at h
  simp only [Bool.and_eq_true, decide_eq_true_eq, inR_iff] at h
  omega
theorem trB_of9 {T : Tr} {rs ps : List (Int × Int)} {p0 way step : Int} (h : IsTr T rs ps p0 way step) (hl : ps.length ≤ 12) : trB rs ps p0 way step = true := by
  obtain ⟨h1, h2, h3, h4, h5, hv⟩ := h
  have n1 := hv.n1; have n6 := hv.n6; have hat := hv.at0; have hst := hv.st
  rw [h1] at n1 n6 hat
  rw [h3] at hst
  unfold trB
  simp only [Bool.and_eq_true, Bool.or_eq_true, decide_eq_true_eq, inR_iff, List.all_eq_true]
  refine ⟨⟨by omega, by omega⟩, fun r hr => ?_, fun p hp => ?_, by omega, ?_, by omega⟩
  · have := hv.rc r (by rw [h1]; exact hr)
    unfold recB
    simp only [Bool.and_eq_true, inR_iff]
    omega
  · have := hv.pr p (by rw [h2]; exact hp)
    rw [h1] at this
    unfold preB
    simp only [Bool.and_eq_true, inR_iff]
    omega
  · rw [← h5]; split <;> simp
structure TtO (b B0 b5 n m : Nat) (ar ap a1 a2 : Option Addr) (cr cp c1 c2 : Nat) (p0 way step p5 way5 : Int) (w : World) (R L : List (Int × Int)) (wr : World) : Prop where
  x0 : Bx wr b #[.slice ar n cr, .int .i64 p0, .int .i64 way, .int .i64 step, .slice ap m cp] 25
  x5 : Bx wr b5 #[.slice a1 n c1, .int .i64 p5, .int .i64 way5, .int .i64 step, .slice a2 m c2] 25
  own1 : wr.ownsRow B0 34 2 (.slice a1 n c1) n (pcells R)
  own2 : wr.ownsRow B0 40 2 (.slice a2 m c2) m (pcells L)
  hb : Below w.heap.size w wr
theorem mirR_get {rs : List (Int × Int)} {i : Nat} {u t : Int} (h : i < rs.length) (hx : rs[rs.length - 1 - i]? = some (u, t)) : (mirR rs)[i]? = some (t, u) := by
  have e := mirR_at h
  rw [List.getD_eq_getElem?_getD, List.getElem?_eq_getElem (by rw [mirR_len]; exact h), List.getD_eq_getElem?_getD, hx] at e
  rw [List.getElem?_eq_getElem (by rw [mirR_len]; exact h)]
  exact congrArg some e
theorem mir_is {T : Tr} {rs ps : List (Int × Int)} {p0 way step : Int} (hT : IsTr T rs ps p0 way step) : IsTr (mirT T) (mirR rs) (ps.map (mirP rs.length)) ((rs.length : Int) - 1 - p0) (-way) step := by
  obtain ⟨h1, h2, h3, h4, h5, hv⟩ := hT
  have hat := hv.at0
  refine ⟨by show mirR T.rcs = _; rw [h1], by show T.prs.map (mirP T.rcs.length) = _; rw [h1, h2], h3, ?_, ?_, mir_vt hv⟩
  · show ((T.rcs.length - 1 - T.at0 : Nat) : Int) = _
    rw [← h1, ← h4]
    omega
  · show (if (!T.up0) = true then (1 : Int) else -1) = _
    rw [← h5]
    cases T.up0 <;> simp
set_option maxRecDepth 100000 in
set_option maxHeartbeats 1000000 in
theorem tt_arg0 (ar ap : Option Addr) (cr cp : Nat) (rs ps : List (Int × Int)) (p0 way step : Int) (time : Int) (w : World) (hlr : rs.length ≤ 9223372036854775807) (hlp : ps.length ≤ 9223372036854775807) (hR : rs.length ≤ 1000 → Prs w ar rs) (hP : ps.length ≤ 1000 → Prs w ap ps) (hv : rdB rs ps p0 way step = false) :
    Calls Try.prog 7 #[.agg #[.slice ar rs.length cr, .int .i64 p0, .int .i64 way, .int .i64 step, .slice ap ps.length cp], .int .i64 time] w (WorksP w) := by
  obtain ⟨W, hW, hb, hs, x0⟩ := boxes1 w #[.slice ar rs.length cr, .int .i64 p0, .int .i64 way, .int .i64 step, .slice ap ps.length cp] 25
  clear hs
  have hrd := ready_any ar ap cr cp rs ps p0 way step W hlr hlp (fun h => (hR h).below hb (Nat.le_refl _)) (fun h => (hP h).below hb (Nat.le_refl _))
  rw [hv] at hrd
  have c0 := x0.cell 0 rfl; have c1 := x0.cell 1 rfl; have c2 := x0.cell 2 rfl; have c3 := x0.cell 3 rfl; have c4 := x0.cell 4 rfl
  clear hR hP hlr hlp hv
  go_enter Try.func7, Try.ntmps7
  go_wp2_with fail
  refine hrd.mono ?_
  rintro e W1 ⟨rfl, hb1⟩
  clear hW hrd
  (try clear c0 c1 c2 c3 c4); replace x0 := x0.below hb1; have c0 := x0.cell 0 rfl; have c1 := x0.cell 1 rfl; have c2 := x0.cell 2 rfl; have c3 := x0.cell 3 rfl; have c4 := x0.cell 4 rfl; replace hb := hb.trans (hb1.mono hb.size); clear hb1
  go_wp2_with fail
  refine (works_any _).mono ?_
  rintro e V3 ⟨rfl, hb1⟩
  replace hb := hb.trans (hb1.mono hb.size)
  clear hb1
  clear x0 c0 c1 c2 c3 c4
  go_wp2
  go_ret
  exact ⟨rfl, hb⟩
set_option maxRecDepth 100000 in
set_option maxHeartbeats 1000000 in
theorem tt_arg1 (ar ap : Option Addr) (cr cp : Nat) (rs ps : List (Int × Int)) (p0 way step : Int) (time : Int) (w : World) (hR : Prs w ar rs) (hP : Prs w ap ps) (hl : ps.length ≤ 40 ∧ rs.length ≤ 40) (hv : rdB rs ps p0 way step = true) (hit : inR 0 time 9999 = false) :
    Calls Try.prog 7 #[.agg #[.slice ar rs.length cr, .int .i64 p0, .int .i64 way, .int .i64 step, .slice ap ps.length cp], .int .i64 time] w (WorksP w) := by
  obtain ⟨W, hW, hb, hs, x0⟩ := boxes1 w #[.slice ar rs.length cr, .int .i64 p0, .int .i64 way, .int .i64 step, .slice ap ps.length cp] 25
  clear hs
  have hrd := ready_any ar ap cr cp rs ps p0 way step W (by omega) (by omega) (fun h => hR.below hb (Nat.le_refl _)) (fun h => hP.below hb (Nat.le_refl _))
  rw [hv] at hrd
  have c0 := x0.cell 0 rfl; have c1 := x0.cell 1 rfl; have c2 := x0.cell 2 rfl; have c3 := x0.cell 3 rfl; have c4 := x0.cell 4 rfl
  clear hR hP hv hl
  go_enter Try.func7, Try.ntmps7
  go_wp2_with fail
  refine hrd.mono ?_
  rintro e W1 ⟨rfl, hb1⟩
  clear hW hrd
  (try clear c0 c1 c2 c3 c4); replace x0 := x0.below hb1; have c0 := x0.cell 0 rfl; have c1 := x0.cell 1 rfl; have c2 := x0.cell 2 rfl; have c3 := x0.cell 3 rfl; have c4 := x0.cell 4 rfl; replace hb := hb.trans (hb1.mono hb.size); clear hb1
  go_wp2_with fail
  refine (refTime_any _ _).mono ?_
  rintro e W3 ⟨rfl, rfl⟩
  rw [hit]
  go_wp2_with fail
  refine (works_any _).mono ?_
  rintro e V3 ⟨rfl, hb1⟩
  replace hb := hb.trans (hb1.mono hb.size)
  clear hb1
  clear x0 c0 c1 c2 c3 c4
  go_wp2
  go_ret
  exact ⟨rfl, hb⟩

set_option maxRecDepth 100000 in
set_option maxHeartbeats 8000000 in
theorem tt_true (ar ap : Option Addr) (cr cp : Nat) (rs ps : List (Int × Int)) (p0 way step : Int) (time : Int) (w : World) (hR : Prs w ar rs) (hP : Prs w ap ps) (hv : rdB rs ps p0 way step = true) (hit : inR 0 time 9999 = true) (T : Tr) (hT : IsTr T rs ps p0 way step) (hup : (runM T (time + 1)).up = true) :
    Calls Try.prog 7 #[.agg #[.slice ar rs.length cr, .int .i64 p0, .int .i64 way, .int .i64 step, .slice ap ps.length cp], .int .i64 time] w (WorksP w) := by
  obtain ⟨hr6, hp12, hr1⟩ := rdB_6b9 (rdB_len hv)
  have hvt := rdB_len hv
  have hyI := inR_iff.1 hit
  have hVT := hT.hv
  have hTm := mir_is hT
  have hvm := trB_of9 hTm (by rw [List.length_map]; exact hp12)
  obtain ⟨n, hn⟩ : ∃ n, n = rs.length := ⟨_, rfl⟩
  obtain ⟨m, hm⟩ : ∃ m, m = ps.length := ⟨_, rfl⟩
  have HN := hid hn; have HM := hid hm
  have hps : ∀ p ∈ ps, 0 ≤ p.1 ∧ p.1 < 2 * (rs.length : Int) := fun p hp => by have h1 := hVT.pr p (by rw [hT.T2]; exact hp); rw [hT.T1] at h1; omega
  have HPS := hid hps
  have hw1 : way = 1 ∨ way = -1 := by
    have h5 := hT.T5
    split at h5 <;> omega
  have hq0 : 0 ≤ p0 ∧ p0 < (rs.length : Int) := by
    have h4 := hT.T4
    have h6 := hVT.at0
    rw [hT.T1] at h6
    omega
  have HALL := hid (And.intro hv (And.intro hvt (And.intro hT (And.intro hTm (And.intro hvm (And.intro hVT hup))))))
  have hcp := fun V h1 h2 => copy_any ar ap cr cp rs ps p0 way step V h1 h2 (by have := HN.out; omega) (by have := HM.out; omega)
  unfold CopyP at hcp
  rw [← hn, ← hm] at hcp ⊢
  rw [← hn] at hr6 hr1 hq0; rw [← hm] at hp12
  obtain ⟨W, hW, hb, hs, x0⟩ := boxes1 w #[.slice ar n cr, .int .i64 p0, .int .i64 way, .int .i64 step, .slice ap m cp] 25
  clear hs
  have hrd := ready_any ar ap cr cp rs ps p0 way step W (by have := HN.out; omega) (by have := HM.out; omega) (fun h => hR.below hb (Nat.le_refl _)) (fun h => hP.below hb (Nat.le_refl _))
  rw [hv, ← hn, ← hm] at hrd
  have c0 := x0.cell 0 rfl; have c1 := x0.cell 1 rfl; have c2 := x0.cell 2 rfl; have c3 := x0.cell 3 rfl; have c4 := x0.cell 4 rfl
  clear hv hvt hTm hvm hVT hup hT hps hn hm
  obtain ⟨la, hla⟩ : ∃ la, la = n - 1 := ⟨_, rfl⟩
  have hlaI : (n : Int) - 1 = (la : Int) := by omega
  have hla6 : (la : Int) ≤ 5 := by omega
  have hmI : (m : Int) ≤ 12 := by omega
  have hnI : (n : Int) ≤ 6 := by omega
  have HLA := hid hla
  clear hla
  go_enter Try.func7, Try.ntmps7
  go_wp2_with fail
  refine hrd.mono ?_
  rintro e W1 ⟨rfl, hb1⟩
  clear hW hrd
  (try clear c0 c1 c2 c3 c4); replace x0 := x0.below hb1; have c0 := x0.cell 0 rfl; have c1 := x0.cell 1 rfl; have c2 := x0.cell 2 rfl; have c3 := x0.cell 3 rfl; have c4 := x0.cell 4 rfl; replace hb := hb.trans (hb1.mono hb.size); clear hb1
  go_wp2_with fail
  refine (refTime_any _ _).mono ?_
  rintro e W3 ⟨rfl, rfl⟩
  rw [hit]
  go_wp2_with fail
  refine (hcp _ (hR.below hb (Nat.le_refl _)) (hP.below hb (Nat.le_refl _))).mono ?_
  rintro e W2 ⟨hb1, a1, a2, c1', c2', rfl, own1, own2, hdis⟩
  clear hcp
  have hl1 := own_lt own1; have hl2 := own_lt own2
  obtain ⟨B0, hB0⟩ : ∃ B, B = W1.heap.size := ⟨_, rfl⟩
  have hxB : w.heap.size < B0 := by rw [hB0]; exact x0.lt
  rw [← hB0] at own1 own2
  replace x0 := x0.below hb1
  replace hb := hb.trans (hb1.mono hb.size)
  obtain ⟨b5, hb5⟩ : ∃ b, W2.heap.size = b := ⟨_, rfl⟩
  have hbx := below_one (w := W2) (.cells #[.slice a1 n c1', .int .i64 p0, .int .i64 way, .int .i64 step, .slice a2 m c2'] 25)
  have hB5 : B0 ≤ b5 := by rw [hB0, ← hb5]; exact hb1.size
  have x0p := x0.below hbx
  have HL := hid (show TtO w.heap.size B0 b5 n m ar ap a1 a2 cr cp c1' c2' p0 way step p0 way w ((mirR rs).take 0 ++ rs.drop 0) ps (W2.alloc (.cells #[.slice a1 n c1', .int .i64 p0, .int .i64 way, .int .i64 step, .slice a2 m c2'] 25)) from
    ⟨x0p, Bx.new' hb5 _ _, by simpa using own_below2 own1 hbx, own_below2 own2 hbx, hb.trans (hbx.mono hb.size)⟩)
  rw [hb5] at hl1 hl2
  have HD := hid hdis
  clear c0 c1 c2 c3 c4
  have c0 := x0p.cell 0 rfl; have c1 := x0p.cell 1 rfl; have c2 := x0p.cell 2 rfl; have c3 := x0p.cell 3 rfl; have c4 := x0p.cell 4 rfl
  clear x0 own1 own2 hb hbx hb1 hB0 hdis
  go_wp2
  clear c0 c1 c2 c3 c4 x0p
  go_loopw [7] (fun v7 wr => ∃ i : Nat, i ≤ n ∧ v7 = .int .i64 (i : Int) ∧ TtO w.heap.size B0 b5 n m ar ap a1 a2 cr cp c1' c2' p0 way step p0 way w ((mirR rs).take i ++ rs.drop i) ps wr) (fun v7 _ => n - (intOf v7).toNat)
  case atStart => exact ⟨0, Nat.zero_le _, rfl, HL.out⟩
  case round =>
    clear HL
    obtain ⟨i, hi, rfl, HR⟩ := hrel
    obtain ⟨x0, x5, own1, own2, hb⟩ := HR
    by_cases hlt : i < n
    · have hiI : (i : Int) ≤ (la : Int) := by omega
      have hi0 : (0 : Int) ≤ (i : Int) := by omega
      obtain ⟨s, hs⟩ : ∃ s, s = n - 1 - i := ⟨_, rfl⟩
      have hsI : (la : Int) - (i : Int) = (s : Int) := by omega
      have hsn : (s : Int) < (n : Int) := by omega
      have hs0 : (0 : Int) ≤ (s : Int) := by omega
      have hin : (i : Int) < (n : Int) := by omega
      obtain ⟨br, or_, u, t, rfl, _, hr1', hr2', hub, htb, hru, _⟩ := hR.at (show s < rs.length by rw [← HN.out]; omega)
      have hod : (mirR rs)[i]? = some (t, u) := mirR_get (by rw [← HN.out]; exact hlt) (by rw [← HN.out, ← hs]; exact hru.out)
      obtain ⟨pd, hpd⟩ : ∃ q, rs[i]? = some q := ⟨_, List.getElem?_eq_getElem (show i < rs.length by rw [← HN.out]; exact hlt)⟩
      obtain ⟨g1, cap, e2, hg1⟩ : ∃ g1 cap, Value.slice a1 n c1' = .slice (some ⟨g1, 0, none⟩) n cap ∧ B0 ≤ g1 := by
        rcases own1.2 with ⟨_, h0⟩ | ⟨g1, cap, cur, e, hge, _⟩
        · omega
        · exact ⟨g1, cap, e, hge⟩
      simp only [Value.slice.injEq, true_and] at e2
      obtain ⟨rfl, rfl⟩ := e2
      have hg15 := hl1 g1 rfl
      have hA : ((mirR rs).take i).length = i := by rw [List.length_take, mirR_len]; have := HN.out; omega
      have hdr : rs.drop i = pd :: rs.drop (i + 1) := by
        have hil : i < rs.length := by rw [← HN.out]; exact hlt
        rw [List.drop_eq_getElem_cons hil]
        rw [List.getElem?_eq_getElem hil] at hpd
        injection hpd with e
        rw [e]
      have hcell := World.ownsRow.cellAt own1 (i * 2) (by omega)
      have hcell1 := World.ownsRow.cellAt own1 (i * 2 + 1) (by omega)
      have hv0 : (pcells ((mirR rs).take i ++ rs.drop i))[i * 2]? = some (.int .i64 pd.1) := by rw [hdr]; exact pcells_get _ _ _ hA
      have hv1 : ∃ z, (pcells ((mirR rs).take i ++ rs.drop i))[i * 2 + 1]? = some z := ⟨_, List.getElem?_eq_getElem (by rw [pcells_len, List.length_append, List.length_drop, hA]; have := HN.out; omega)⟩
      obtain ⟨z1, hv1⟩ := hv1
      rw [hv0] at hcell
      rw [hv1] at hcell1
      have fr0 := own1.frozenAt (i * 2)
      have fr1 := own1.frozenAt (i * 2 + 1)
      have HOD := hid (And.intro hod (And.intro hdr hA))
      clear hod hpd hdr hA hv0 hv1 hru hs
      go_upto_region 8 with fail
      have hbd := (Below.refl wr.heap.size wr).drew
      have x0d := x0.below hbd; have x5d := x5.below hbd
      have own1d := own_below2 own1 hbd; have own2d := own_below2 own2 hbd
      have hbb := hb.trans (hbd.mono hb.size)
      have hcd := Below.keep hbd hcell; have hcd1 := Below.keep hbd hcell1
      have fd0 := own1d.frozenAt (i * 2); have fd1 := own1d.frozenAt (i * 2 + 1)
      clear hbd x0 x5 own1 own2 hb hcell hcell1 fr0 fr1
      refine wp_region_head 20 (fun w' => Bx w' w.heap.size #[.slice (some ⟨br, or_, none⟩) n cr, .int .i64 p0, .int .i64 way, .int .i64 step, .slice ap m cp] 25 ∧ Bx w' b5 #[.slice (some ⟨g1, 0, none⟩) n c1', .int .i64 p0, .int .i64 way, .int .i64 step, .slice a2 m c2'] 25 ∧ w'.cell? ⟨br, or_ + s * 2, none⟩ = some (.int .i64 u) ∧ w'.cell? ⟨br, or_ + s * 2 + 1, none⟩ = some (.int .i64 t)) (by kernel_rfl) rfl ?_
      generalize wr.drew = Y0 at *
      have S0 := And.intro x0d (And.intro x5d (And.intro (Below.keep hbb hr1') (Below.keep hbb hr2')))
      have ews : IntKind.i64.wrap (s : Int) = (s : Int) := IntWalk.i64_in _ (by omega)
      refine HeadAt.take (i := 0) (.pointer (some ⟨b5, 0, none⟩)) rfl (by kernel_rfl) (.inl ⟨rfl, fun _ _ => by simp [go_sem]⟩) S0 ?_
      refine HeadAt.take (i := 1) (.slice (some ⟨g1, 0, none⟩) n c1') rfl (by kernel_rfl) (.inl ⟨rfl, fun w' z => ?_⟩) S0 ?_
      · (have z0 := z.2.1.cell 0 rfl; simp [go_sem, z0])
      refine HeadAt.take (i := 2) (.int .i64 (i : Int)) rfl (by kernel_rfl) (.inl ⟨rfl, fun _ _ => by simp [go_sem]⟩) S0 ?_
      refine HeadAt.take (i := 3) (.pointer (some ⟨w.heap.size, 0, none⟩)) rfl (by kernel_rfl) (.inl ⟨rfl, fun _ _ => by simp [go_sem]⟩) S0 ?_
      simp only [Act.put, List.getElem_toArray, List.getElem_cons_succ, List.getElem_cons_zero, List.setIfInBounds_toArray, List.set_cons_succ, List.set_cons_zero]
      refine HeadAt.take (i := 4) (.slice (some ⟨br, or_, none⟩) n cr) rfl (by kernel_rfl) (.inl ⟨rfl, fun w' z => ?_⟩) S0 ?_
      · (have z0 := z.1.cell 0 rfl; simp [go_sem, z0])
      refine HeadAt.take (i := 5) (.int .i64 (la : Int)) rfl (by kernel_rfl) (.inl ⟨rfl, fun _ _ => by simp [go_sem]⟩) S0 ?_
      refine HeadAt.take (i := 6) (.int .i64 (i : Int)) rfl (by kernel_rfl) (.inl ⟨rfl, fun _ _ => by simp [go_sem]⟩) S0 ?_
      simp only [Act.put, List.getElem_toArray, List.getElem_cons_succ, List.getElem_cons_zero, List.setIfInBounds_toArray, List.set_cons_succ, List.set_cons_zero]
      refine HeadAt.take (i := 7) (.int .i64 (s : Int)) rfl (by kernel_rfl) (.inl ⟨rfl, fun w' z => ?_⟩) S0 ?_
      · (simp [go_sem, hsI, ews])
      refine HeadAt.take (i := 8) (.pointer (some ⟨br, or_ + s * 2, none⟩)) rfl (by kernel_rfl) (.inl ⟨rfl, fun w' z => ?_⟩) S0 ?_
      · (simp [go_sem, hsn, hs0])
      refine HeadAt.take (i := 9) (.pointer (some ⟨br, or_ + s * 2 + 1, none⟩)) rfl (by kernel_rfl) (.inl ⟨rfl, fun _ _ => by simp [go_sem]⟩) S0 ?_
      simp only [Act.put, List.getElem_toArray, List.getElem_cons_succ, List.getElem_cons_zero, List.setIfInBounds_toArray, List.set_cons_succ, List.set_cons_zero]
      refine HeadAt.take (i := 10) (.int .i64 t) rfl (by kernel_rfl) (.inl ⟨rfl, fun w' z => ?_⟩) S0 ?_
      · (simp [go_sem, z.2.2.2])
      refine HeadAt.take (i := 11) (.pointer (some ⟨w.heap.size, 0, none⟩)) rfl (by kernel_rfl) (.inl ⟨rfl, fun _ _ => by simp [go_sem]⟩) S0 ?_
      refine HeadAt.take (i := 12) (.slice (some ⟨br, or_, none⟩) n cr) rfl (by kernel_rfl) (.inl ⟨rfl, fun w' z => ?_⟩) S0 ?_
      · (have z0 := z.1.cell 0 rfl; simp [go_sem, z0])
      refine HeadAt.take (i := 13) (.int .i64 (la : Int)) rfl (by kernel_rfl) (.inl ⟨rfl, fun _ _ => by simp [go_sem]⟩) S0 ?_
      refine HeadAt.take (i := 14) (.int .i64 (i : Int)) rfl (by kernel_rfl) (.inl ⟨rfl, fun _ _ => by simp [go_sem]⟩) S0 ?_
      simp only [Act.put, List.getElem_toArray, List.getElem_cons_succ, List.getElem_cons_zero, List.setIfInBounds_toArray, List.set_cons_succ, List.set_cons_zero]
      refine HeadAt.take (i := 15) (.int .i64 (s : Int)) rfl (by kernel_rfl) (.inl ⟨rfl, fun w' z => ?_⟩) S0 ?_
      · (simp [go_sem, hsI, ews])
      refine HeadAt.take (i := 16) (.pointer (some ⟨br, or_ + s * 2, none⟩)) rfl (by kernel_rfl) (.inl ⟨rfl, fun w' z => ?_⟩) S0 ?_
      · (simp [go_sem, hsn, hs0])
      refine HeadAt.take (i := 17) (.pointer (some ⟨br, or_ + s * 2, none⟩)) rfl (by kernel_rfl) (.inl ⟨rfl, fun _ _ => by simp [go_sem]⟩) S0 ?_
      simp only [Act.put, List.getElem_toArray, List.getElem_cons_succ, List.getElem_cons_zero, List.setIfInBounds_toArray, List.set_cons_succ, List.set_cons_zero]
      refine HeadAt.take (i := 18) (.int .i64 u) rfl (by kernel_rfl) (.inl ⟨rfl, fun w' z => ?_⟩) S0 ?_
      · (simp [go_sem, z.2.2.1])
      refine HeadAt.take (i := 19) (.agg #[.int .i64 t, .int .i64 u]) rfl (by kernel_rfl) (.inl ⟨rfl, fun w' z => ?_⟩) S0 ?_
      · (simp [go_sem])
      refine HeadAt.done (by kernel_rfl) ?_
      (try simp only [Act.put, List.drop_succ_cons, List.drop_zero, List.getElem_toArray, List.getElem_cons_succ, List.getElem_cons_zero])
      clear S0
      obtain ⟨own3, gs1⟩ := own1d.stored (i * 2) (.int .i64 t)
      have hcd1' : (Y0.setCell ⟨g1, i * 2, none⟩ (.int .i64 t)).cell? ⟨g1, i * 2 + 1, none⟩ = some z1 := by
        have h := World.ownsRow.cellAt own3 (i * 2 + 1) (by omega)
        rw [h, List.getElem?_set, if_neg (by omega)]
        have h2 := World.ownsRow.cellAt own1d (i * 2 + 1) (by omega)
        rw [hcd1] at h2
        exact h2.symm
      have fd2 := own3.frozenAt (i * 2 + 1)
      obtain ⟨own4, gs2⟩ := own3.stored (i * 2 + 1) (.int .i64 u)
      have gs := gtr gs1 gs2
      have HF := hid (show TtO w.heap.size B0 b5 n m (some ⟨br, or_, none⟩) ap (some ⟨g1, 0, none⟩) a2 cr cp c1' c2' p0 way step p0 way w ((mirR rs).take (i + 1) ++ rs.drop (i + 1)) ps _ from
        ⟨x0d.gb gs (fun k hk => by cases hk; omega), x5d.gb gs (fun k hk => by cases hk; omega),
          by rw [take_snocI HOD.out.1, List.append_assoc]; rw [HOD.out.2.1, pcells_put2A9 _ _ _ _ _ HOD.out.2.2] at own4; exact own4,
          own_keep own2d gs (fun k hk e => by injection e with e; exact HD.out _ rfl (by rw [hk, e])),
          hbb.grown gs hbb.size (fun k hk => by cases hk; omega)⟩)
      clear own3 gs1 own4 gs2 gs x0d x5d own1d own2d hbb
      go_wp2_with fail
      refine NoPanic.normal ?_
      go_wp2
      go_roundw
      case rel => exact ⟨i + 1, by omega, by go_num, HF.out⟩
      case measure => simp [intOf]; omega
    · have hiI : (la : Int) < (i : Int) := by omega
      have e1 : (mirR rs).take i ++ rs.drop i = mirR rs := by
        rw [List.take_of_length_le (by rw [mirR_len]; have := HN.out; omega), List.drop_eq_nil_iff.2 (by have := HN.out; omega), List.append_nil]
      rw [e1] at own1
      clear e1
      have hd38 : decide ((i : Int) ≤ (la : Int)) = false := by simp; omega
      have hd39 : decide (i ≤ la) = false := by simp; omega
      have wp0 : IntKind.i64.wrap ((la : Int) - p0) = (la : Int) - p0 := IntWalk.i64_in _ (by omega)
      have wpn : IntKind.i64.wrap (-way) = -way := IntWalk.i64_in _ (by omega)
      go_upto_region 9 with fail
      have hbd := (Below.refl wr.heap.size wr).drew
      have x0d := x0.below hbd; have x5d := x5.below hbd
      have own1d := own_below2 own1 hbd; have own2d := own_below2 own2 hbd
      have hbb := hb.trans (hbd.mono hb.size)
      clear hbd x0 x5 own1 own2 hb
      refine wp_region_head 9 (fun w' => Bx w' w.heap.size #[.slice ar n cr, .int .i64 p0, .int .i64 way, .int .i64 step, .slice ap m cp] 25) (by kernel_rfl) rfl ?_
      generalize wr.drew = Y0 at *
      have S0 := x0d
      refine HeadAt.take (i := 0) (.int .i64 (la : Int)) rfl (by kernel_rfl) (.inl ⟨rfl, fun _ _ => by simp [go_sem]⟩) S0 ?_
      refine HeadAt.take (i := 1) (.pointer (some ⟨w.heap.size, 1, none⟩)) rfl (by kernel_rfl) (.inl ⟨rfl, fun _ _ => by simp [go_sem]⟩) S0 ?_
      refine HeadAt.take (i := 2) (.int .i64 p0) rfl (by kernel_rfl) (.inl ⟨rfl, fun w' z => ?_⟩) S0 ?_
      · (have z0 := z.cell 1 rfl; simp [go_sem, z0])
      refine HeadAt.take (i := 3) (.int .i64 ((la : Int) - p0)) rfl (by kernel_rfl) (.inl ⟨rfl, fun w' z => ?_⟩) S0 ?_
      · (simp [go_sem, wp0])
      simp only [Act.put, List.getElem_toArray, List.getElem_cons_succ, List.getElem_cons_zero, List.setIfInBounds_toArray, List.set_cons_succ, List.set_cons_zero]
      refine HeadAt.take (i := 4) (.pointer (some ⟨w.heap.size, 2, none⟩)) rfl (by kernel_rfl) (.inl ⟨rfl, fun _ _ => by simp [go_sem]⟩) S0 ?_
      refine HeadAt.take (i := 5) (.int .i64 way) rfl (by kernel_rfl) (.inl ⟨rfl, fun w' z => ?_⟩) S0 ?_
      · (have z0 := z.cell 2 rfl; simp [go_sem, z0])
      refine HeadAt.take (i := 6) (.int .i64 (-way)) rfl (by kernel_rfl) (.inl ⟨rfl, fun w' z => ?_⟩) S0 ?_
      · (simp [go_sem, wpn])
      simp only [Act.put, List.getElem_toArray, List.getElem_cons_succ, List.getElem_cons_zero, List.setIfInBounds_toArray, List.set_cons_succ, List.set_cons_zero]
      refine HeadAt.take (i := 7) (.pointer (some ⟨b5, 1, none⟩)) rfl (by kernel_rfl) (.inl ⟨rfl, fun _ _ => by simp [go_sem]⟩) S0 ?_
      simp only [Act.put, List.getElem_toArray, List.getElem_cons_succ, List.getElem_cons_zero, List.setIfInBounds_toArray, List.set_cons_succ, List.set_cons_zero]
      clear wp0 wpn
      have f1 := x5d.free 1
      have k1 := x5d.cell 1 rfl
      have g1 : Y0.grownBy (Y0.setCell ⟨b5, 1, none⟩ (.int .i64 ((la : Int) - p0))) (some b5) := gset Y0 ⟨b5, 1, none⟩ (.int .i64 ((la : Int) - p0))
      have S1 := S0.gb g1 (fun k hk => by cases hk; omega)
      have HX := hid (And.intro x0d (And.intro x5d (And.intro own1d (And.intro own2d (And.intro hbb (And.intro g1 S1))))))
      clear x0d x5d own1d own2d hbb g1 S1 S0
      refine HeadAt.one (i := 8) rfl (by kernel_rfl) ?_
      generalize hK : Upto _ _ = K0
      (try simp only [List.getElem_toArray, List.getElem_cons_succ, List.getElem_cons_zero])
      go_wp2_with fail
      subst hK
      clear f1 k1
      obtain ⟨x0d, x5d, own1d, own2d, hbb, g1, S1⟩ := HX.out
      clear HX
      refine ⟨S1, ?_⟩
      refine HeadAt.done (by kernel_rfl) ?_
      (try simp only [List.drop_succ_cons, List.drop_zero])
      clear S1
      have f2 := (x5d.set 1 (.int .i64 ((la : Int) - p0))).free 2
      have k2 := (x5d.set 1 (.int .i64 ((la : Int) - p0))).cell 2 rfl
      have g2 : (Y0.setCell ⟨b5, 1, none⟩ (.int .i64 ((la : Int) - p0))).grownBy ((Y0.setCell ⟨b5, 1, none⟩ (.int .i64 ((la : Int) - p0))).setCell ⟨b5, 2, none⟩ (.int .i64 (-way))) (some b5) := gset (Y0.setCell ⟨b5, 1, none⟩ (.int .i64 ((la : Int) - p0))) ⟨b5, 2, none⟩ (.int .i64 (-way))
      have gs := gtr g1 g2
      clear g1 g2
      have x5b : Bx _ b5 #[.slice a1 n c1', .int .i64 ((la : Int) - p0), .int .i64 (-way), .int .i64 step, .slice a2 m c2'] 25 := (x5d.set 1 (.int .i64 ((la : Int) - p0))).set 2 (.int .i64 (-way))
      have d4 := x5b.cell 4 rfl
      have HF := hid (show TtO w.heap.size B0 b5 n m ar ap a1 a2 cr cp c1' c2' p0 way step ((la : Int) - p0) (-way) w (mirR rs) ((ps.map (mirP n)).take 0 ++ ps.drop 0) _ from
        ⟨x0d.gb gs (fun k hk => by cases hk; omega), x5b,
          own_keep own1d gs (fun k hk e => by have := hl1 k hk; injection e with e; omega),
          by simpa using own_keep own2d gs (fun k hk e => by have := hl2 k hk; injection e with e; omega),
          hbb.grown gs hbb.size (fun k hk => by cases hk; omega)⟩)
      clear gs x5b x0d x5d own1d own2d hbb
      go_wp2_with fail
      refine NoPanic.normal ?_
      clear f2 k2
      go_wp2
      clear d4 hd38 hd39 hiI hlt hi
      go_loopw [8] (fun v8 wr => ∃ i : Nat, i ≤ m ∧ v8 = .int .i64 (i : Int) ∧ TtO w.heap.size B0 b5 n m ar ap a1 a2 cr cp c1' c2' p0 way step ((la : Int) - p0) (-way) w (mirR rs) ((ps.map (mirP n)).take i ++ ps.drop i) wr) (fun v8 _ => m - (intOf v8).toNat)
      case atStart => exact ⟨0, Nat.zero_le _, rfl, HF.out⟩
      case round =>
        clear HF
        obtain ⟨i, hi, rfl, HR⟩ := hrel
        obtain ⟨x0, x5, own1, own2, hb⟩ := HR
        by_cases hlt2 : i < m
        · have hiI : (i : Int) < (m : Int) := by omega
          have hi0 : (0 : Int) ≤ (i : Int) := by omega
          obtain ⟨bp, op, u, t, rfl, _, hp1, hp2, hub, htb, hpi, hpd⟩ := hP.at (show i < ps.length by rw [← HM.out]; exact hlt2)
          have hum := HPS.out (u, t) (List.mem_of_getElem? hpi.out)
          rw [← HN.out] at hum
          dsimp only at hum
          obtain ⟨z, hz⟩ : ∃ z, z = 2 * (la : Int) + 1 - u := ⟨_, rfl⟩
          have ew1 : IntKind.i64.wrap (2 * (la : Int)) = 2 * (la : Int) := IntWalk.i64_in _ (by omega)
          have ew2 : IntKind.i64.wrap (2 * (la : Int) + 1) = 2 * (la : Int) + 1 := IntWalk.i64_in _ (by omega)
          have ew3 : IntKind.i64.wrap (2 * (la : Int) + 1 - u) = z := by rw [hz]; exact IntWalk.i64_in _ (by omega)
          have hoi : (ps.map (mirP n))[i]? = some (z, t) := by
            rw [List.getElem?_map, hpi.out]
            show some (mirP n (u, t)) = _
            unfold mirP
            dsimp only
            rw [show 2 * (n : Int) - 1 - u = z by omega]
          obtain ⟨g2, cap, e2, hg2⟩ : ∃ g2 cap, Value.slice a2 m c2' = .slice (some ⟨g2, 0, none⟩) m cap ∧ B0 ≤ g2 := by
            rcases own2.2 with ⟨_, h0⟩ | ⟨g2, cap, cur, e, hge, _⟩
            · omega
            · exact ⟨g2, cap, e, hge⟩
          simp only [Value.slice.injEq, true_and] at e2
          obtain ⟨rfl, rfl⟩ := e2
          have hg25 := hl2 g2 rfl
          have hA : ((ps.map (mirP n)).take i).length = i := by rw [List.length_take, List.length_map]; have := HM.out; omega
          have HOI := hid (And.intro hoi (And.intro hpd.out hA))
          have hpw1 := Below.keep hb hp1
          clear hoi hpi hpd hum hA hz
          have d0 := x5.cell 0 rfl; have d1 := x5.cell 1 rfl; have d2 := x5.cell 2 rfl; have d3 := x5.cell 3 rfl; have d4 := x5.cell 4 rfl
          go_upto_region 13 with fail
          clear d0 d1 d2 d3 d4
          have hbd := (Below.refl wr.heap.size wr).drew
          have x0d := x0.below hbd; have x5d := x5.below hbd
          have own1d := own_below2 own1 hbd; have own2d := own_below2 own2 hbd
          have hbb := hb.trans (hbd.mono hb.size)
          clear hbd x0 x5 own1 own2 hb hpw1
          refine wp_region_head 13 (fun w' => Bx w' w.heap.size #[.slice ar n cr, .int .i64 p0, .int .i64 way, .int .i64 step, .slice (some ⟨bp, op, none⟩) m cp] 25 ∧ Bx w' b5 #[.slice a1 n c1', .int .i64 ((la : Int) - p0), .int .i64 (-way), .int .i64 step, .slice (some ⟨g2, 0, none⟩) m c2'] 25 ∧ w'.cell? ⟨bp, op + i * 2, none⟩ = some (.int .i64 u)) (by kernel_rfl) rfl ?_
          generalize wr.drew = Y0 at *
          have S0 := And.intro x0d (And.intro x5d (Below.keep hbb hp1))
          refine HeadAt.take (i := 0) (.pointer (some ⟨b5, 4, none⟩)) rfl (by kernel_rfl) (.inl ⟨rfl, fun _ _ => by simp [go_sem]⟩) S0 ?_
          refine HeadAt.take (i := 1) (.slice (some ⟨g2, 0, none⟩) m c2') rfl (by kernel_rfl) (.inl ⟨rfl, fun w' z => ?_⟩) S0 ?_
          · (have z0 := z.2.1.cell 4 rfl; simp [go_sem, z0])
          refine HeadAt.take (i := 2) (.int .i64 (i : Int)) rfl (by kernel_rfl) (.inl ⟨rfl, fun _ _ => by simp [go_sem]⟩) S0 ?_
          refine HeadAt.take (i := 3) (.int .i64 (la : Int)) rfl (by kernel_rfl) (.inl ⟨rfl, fun _ _ => by simp [go_sem]⟩) S0 ?_
          simp only [Act.put, List.getElem_toArray, List.getElem_cons_succ, List.getElem_cons_zero, List.setIfInBounds_toArray, List.set_cons_succ, List.set_cons_zero]
          refine HeadAt.take (i := 4) (.int .i64 (2 * (la : Int))) rfl (by kernel_rfl) (.inl ⟨rfl, fun w' z => ?_⟩) S0 ?_
          · (simp [go_sem, ew1])
          refine HeadAt.take (i := 5) (.int .i64 (2 * (la : Int) + 1)) rfl (by kernel_rfl) (.inl ⟨rfl, fun w' z => ?_⟩) S0 ?_
          · (simp [go_sem, ew2])
          refine HeadAt.take (i := 6) (.pointer (some ⟨w.heap.size, 4, none⟩)) rfl (by kernel_rfl) (.inl ⟨rfl, fun _ _ => by simp [go_sem]⟩) S0 ?_
          refine HeadAt.take (i := 7) (.slice (some ⟨bp, op, none⟩) m cp) rfl (by kernel_rfl) (.inl ⟨rfl, fun w' z => ?_⟩) S0 ?_
          · (have z0 := z.1.cell 4 rfl; simp [go_sem, z0])
          refine HeadAt.take (i := 8) (.int .i64 (i : Int)) rfl (by kernel_rfl) (.inl ⟨rfl, fun _ _ => by simp [go_sem]⟩) S0 ?_
          simp only [Act.put, List.getElem_toArray, List.getElem_cons_succ, List.getElem_cons_zero, List.setIfInBounds_toArray, List.set_cons_succ, List.set_cons_zero]
          refine HeadAt.take (i := 9) (.pointer (some ⟨bp, op + i * 2, none⟩)) rfl (by kernel_rfl) (.inl ⟨rfl, fun w' z => ?_⟩) S0 ?_
          · (simp [go_sem, hiI, hi0])
          refine HeadAt.take (i := 10) (.pointer (some ⟨bp, op + i * 2, none⟩)) rfl (by kernel_rfl) (.inl ⟨rfl, fun _ _ => by simp [go_sem]⟩) S0 ?_
          refine HeadAt.take (i := 11) (.int .i64 u) rfl (by kernel_rfl) (.inl ⟨rfl, fun w' z => ?_⟩) S0 ?_
          · (simp [go_sem, z.2.2])
          simp only [Act.put, List.getElem_toArray, List.getElem_cons_succ, List.getElem_cons_zero, List.setIfInBounds_toArray, List.set_cons_succ, List.set_cons_zero]
          refine HeadAt.take (i := 12) (.int .i64 z) rfl (by kernel_rfl) (.inl ⟨rfl, fun w' z => ?_⟩) S0 ?_
          · (simp [go_sem, ew3])
          refine HeadAt.done (by kernel_rfl) ?_
          (try simp only [Act.put, List.drop_succ_cons, List.drop_zero, List.getElem_toArray, List.getElem_cons_succ, List.getElem_cons_zero])
          clear S0 ew1 ew2 ew3
          have fr := own2d.frozenAt (i * 2)
          have kc : Y0.cell? ⟨g2, i * 2, none⟩ = some (.int .i64 u) := by
            have h := World.ownsRow.cellAt own2d (i * 2) (by omega)
            rw [h, HOI.out.2.1]
            exact pcells_get _ _ _ HOI.out.2.2
          obtain ⟨own4s, gs⟩ := own2d.stored (i * 2) (.int .i64 z)
          have HF := hid (show TtO w.heap.size B0 b5 n m ar (some ⟨bp, op, none⟩) a1 (some ⟨g2, 0, none⟩) cr cp c1' c2' p0 way step ((la : Int) - p0) (-way) w (mirR rs) ((ps.map (mirP n)).take (i + 1) ++ ps.drop (i + 1)) _ from
            ⟨x0d.gb gs (fun k hk => by cases hk; omega), x5d.gb gs (fun k hk => by cases hk; omega),
              own_keep own1d gs (fun k hk e => HD.out k hk (by injection e with e; rw [← e]; rfl)),
              by rw [take_snocI HOI.out.1, List.append_assoc]; rw [HOI.out.2.1, pcells_put _ _ _ _ HOI.out.2.2] at own4s; exact own4s,
              hbb.grown gs (by have := hbb.size; omega) (fun k hk => by cases hk; omega)⟩)
          clear own4s gs x0d x5d own1d own2d hbb
          go_wp2_with fail
          refine NoPanic.normal ?_
          go_wp2
          go_roundw
          case rel => exact ⟨i + 1, by omega, by go_num, HF.out⟩
          case measure => simp [intOf]; omega
        · have hnr := HN.out; have hmp := HM.out
          obtain ⟨hv, hvt, hT, hTm, hvm, hVT, hup⟩ := HALL.out
          have e2 : (ps.map (mirP n)).take i ++ ps.drop i = ps.map (mirP n) := by
            rw [List.take_of_length_le (by rw [List.length_map]; omega), List.drop_eq_nil_iff.2 (by omega), List.append_nil]
          rw [e2] at own2
          clear e2
          have hvM := mir_vt hVT
          rw [← hnr, hlaI] at hTm hvm
          have q1 := own_prsA9 own1 (by rw [mirR_len]; exact hnr.symm) (by omega) (fun x hx => by have h1 := hvM.rc x (by rw [hTm.T1]; exact hx); omega)
          have q2 := own_prsA9 own2 (by rw [List.length_map]; exact hmp.symm) (by omega) (fun x hx => by have h1 := hvM.pr x (by rw [hTm.T2]; exact hx); rw [hTm.T1, mirR_len] at h1; omega)
          have hc1 := cn_run hVT (Int.le_refl maxI)
          have htm := plays_time hVT
          have hPl := fun V h1 h2 => Plays_ok ar ap cr cp rs ps p0 way step V h1 h2 hvt T hT (runM T maxI) rfl
          have hPm := fun V h1 h2 => Plays_ok a1 a2 c1' c2' (mirR rs) (ps.map (mirP n)) ((la : Int) - p0) (-way) step V h1 h2 hvm (mirT T) hTm (runM (mirT T) maxI) rfl
          have hSl := fun V h1 h2 => Steps_ok ar ap cr cp rs ps p0 way step V h1 h2 hvt T hT (runM T maxI) rfl
          have hSm := fun V h1 h2 => Steps_ok a1 a2 c1' c2' (mirR rs) (ps.map (mirP n)) ((la : Int) - p0) (-way) step V h1 h2 hvm (mirT T) hTm (runM (mirT T) maxI) rfl
          rw [mir_run hVT (Int.le_refl maxI), hT.T1, ← hnr] at hPm hSm
          have hDl := fun V h1 h2 => Stand_ok ar ap cr cp rs ps p0 way step time V h1 h2 hvt hit T hT (runM T (time + 1)) rfl
          have hDm := fun V h1 h2 => Stand_ok a1 a2 c1' c2' (mirR rs) (ps.map (mirP n)) ((la : Int) - p0) (-way) step time V h1 h2 hvm hit (mirT T) hTm (runM (mirT T) (time + 1)) rfl
          rw [mir_run hVT (b := time + 1) (by unfold maxI; omega), hT.T1, ← hnr] at hDm
          have hrg := (rng_run hVT (b := time + 1) (by unfold maxI; omega)).inv
          have hpos := hrg.pos
          rw [hT.T1, ← hnr] at hpos
          have hsd := hrg.sd
          rw [hT.T1, ← hnr] at hsd
          unfold standV mirC at hDm
          unfold standV at hDl
          dsimp only at hDm
          rw [hup] at hDl hDm
          obtain ⟨p, hp⟩ : ∃ p, p = (runM T (time + 1)).pos := ⟨_, rfl⟩
          obtain ⟨z2, hz2⟩ : ∃ z, z = (runM T (time + 1)).side := ⟨_, rfl⟩
          rw [← hp] at hDl hDm hpos
          rw [← hz2] at hDl hDm hsd
          obtain ⟨p', hp'⟩ : ∃ p', p' = n - 1 - p := ⟨_, rfl⟩
          obtain ⟨z3, hz3⟩ : ∃ z3 : Int, z3 = (if z2 = -1 then -1 else 2 * (n : Int) - 1 - z2) := ⟨_, rfl⟩
          rw [← hp', ← hz3] at hDm
          obtain ⟨L, hL⟩ : ∃ L, L = (runM T maxI).plays := ⟨_, rfl⟩
          obtain ⟨st, hst⟩ : ∃ st, st = (runM T maxI).steps := ⟨_, rfl⟩
          unfold PlaysP at hPl hPm
          unfold StepsP at hSl hSm
          unfold mirC at hPm hSm
          dsimp only at hPm hSm
          have hcs := hc1.s; have hcn := hc1.n; have hcd := hc1.d
          rw [← hL] at hPl hPm hcs hcn hcd htm
          rw [← hst] at hSl hSm
          rw [hT.T2, ← hmp] at hcn
          have hlen : L.length ≤ m := by omega
          have hsecs : ∀ k, k < 2 * rs.length → 0 ≤ secs T k ∧ secs T k ≤ 999 := fun k hk => by have := secs_le hVT (k := k) (by rw [hT.T1]; exact hk); omega
          have hsan := fun al cl V h1 h2 h3 => sane_ok al cl L ar ap cr cp rs ps p0 way step V h1 h2 h3 T hT.T1 (by omega) (by omega) (by omega) (fun q hq => by have h1 := hcd q hq; have h2 := htm q hq; rw [hT.T1] at h1; omega) _ hcs hsecs
          obtain ⟨nl, hnl⟩ : ∃ nl, nl = L.length := ⟨_, rfl⟩
          simp only [List.length_map, mirR_len] at hPm hSm hDm
          rw [← hnr, ← hmp] at hPm hSm hDm hPl hSl hDl hsan
          rw [← hnl] at hPm hPl hsan hlen
          have hDl' : ∀ V, Prs V ar rs → Prs V ap ps → Calls Try.prog 30 #[.agg #[.slice ar n cr, .int .i64 p0, .int .i64 way, .int .i64 step, .slice ap m cp], .int .i64 time] V fun e w' => e = .returned (.tuple #[.agg #[.int .i64 (p : Nat), .int .i64 (1), .int .i64 z2], .int .i64 0]) ∧ Below V.heap.size V w' := hDl
          have hDm' : ∀ V, Prs V a1 (mirR rs) → Prs V a2 (ps.map (mirP n)) → Calls Try.prog 30 #[.agg #[.slice a1 n c1', .int .i64 ((la : Int) - p0), .int .i64 (-way), .int .i64 step, .slice a2 m c2'], .int .i64 time] V fun e w' => e = .returned (.tuple #[.agg #[.int .i64 (p' : Nat), .int .i64 (-1), .int .i64 z3], .int .i64 0]) ∧ Below V.heap.size V w' := hDm
          have hnlI : (nl : Int) ≤ 12 := by omega
          have hiI : (m : Int) ≤ (i : Int) := by omega
          have hpla : (p : Int) ≤ (la : Int) := by omega
          have hp0 : (0 : Int) ≤ (p : Int) := by omega
          have hpp : (la : Int) - (p : Int) = (p' : Int) := by omega
          have hz1 : -1 ≤ z2 := by omega
          have hzl : z2 ≤ 2 * (la : Int) + 1 := by omega
          have HLD := hid (show ∀ q ∈ L, 0 ≤ q.1 ∧ q.1 < 2 * (n : Int) from fun q hq => by have h1 := hcd q hq; rw [hT.T1] at h1; omega)
          have HZ3 := hid hz3; have HNL := hid hnl; have HPP := hid hpp
          have c0 := x0.cell 0 rfl; have c1 := x0.cell 1 rfl; have c2 := x0.cell 2 rfl; have c3 := x0.cell 3 rfl; have c4 := x0.cell 4 rfl
          have d0 := x5.cell 0 rfl; have d1 := x5.cell 1 rfl; have d2 := x5.cell 2 rfl; have d3 := x5.cell 3 rfl; have d4 := x5.cell 4 rfl
          clear hDl hDm hv hvt hT hTm hvm hVT hup hvM hc1 hcs hcn hcd htm hsecs hrg hpos hsd hz3 hnl hp hz2 hp' hst hL own1 own2 hnr hmp hpp hi hlt2
          go_wp2_with fail
          refine (hPl _ (hR.below hb (Nat.le_refl _)) (hP.below hb (Nat.le_refl _))).mono ?_
          rintro e V1 ⟨hb1, al, cl, rfl, r1⟩
          clear hPl
          (try clear c0 c1 c2 c3 c4); replace x0 := x0.below hb1; have c0 := x0.cell 0 rfl; have c1 := x0.cell 1 rfl; have c2 := x0.cell 2 rfl; have c3 := x0.cell 3 rfl; have c4 := x0.cell 4 rfl; (try clear d0 d1 d2 d3 d4); replace x5 := x5.below hb1; have d0 := x5.cell 0 rfl; have d1 := x5.cell 1 rfl; have d2 := x5.cell 2 rfl; have d3 := x5.cell 3 rfl; have d4 := x5.cell 4 rfl; replace q1 := q1.below hb1 (Nat.le_refl _); replace q2 := q2.below hb1 (Nat.le_refl _); replace hb := hb.trans (hb1.mono hb.size); clear hb1
          go_wp2_with fail
          refine (hPm _ q1 q2).mono ?_
          rintro e V2 ⟨hb1, am, cm, rfl, r2⟩
          clear hPm
          (try clear c0 c1 c2 c3 c4); replace x0 := x0.below hb1; have c0 := x0.cell 0 rfl; have c1 := x0.cell 1 rfl; have c2 := x0.cell 2 rfl; have c3 := x0.cell 3 rfl; have c4 := x0.cell 4 rfl; (try clear d0 d1 d2 d3 d4); replace x5 := x5.below hb1; have d0 := x5.cell 0 rfl; have d1 := x5.cell 1 rfl; have d2 := x5.cell 2 rfl; have d3 := x5.cell 3 rfl; have d4 := x5.cell 4 rfl; replace q1 := q1.below hb1 (Nat.le_refl _); replace q2 := q2.below hb1 (Nat.le_refl _); replace r1 := r1.below hb1 (Nat.le_refl _); replace hb := hb.trans (hb1.mono hb.size); clear hb1
          go_wp2_with fail
          refine (hSl _ (hR.below hb (Nat.le_refl _)) (hP.below hb (Nat.le_refl _))).mono ?_
          rintro e V3 ⟨hb1, rfl⟩
          clear hSl
          (try clear c0 c1 c2 c3 c4); replace x0 := x0.below hb1; have c0 := x0.cell 0 rfl; have c1 := x0.cell 1 rfl; have c2 := x0.cell 2 rfl; have c3 := x0.cell 3 rfl; have c4 := x0.cell 4 rfl; (try clear d0 d1 d2 d3 d4); replace x5 := x5.below hb1; have d0 := x5.cell 0 rfl; have d1 := x5.cell 1 rfl; have d2 := x5.cell 2 rfl; have d3 := x5.cell 3 rfl; have d4 := x5.cell 4 rfl; replace q1 := q1.below hb1 (Nat.le_refl _); replace q2 := q2.below hb1 (Nat.le_refl _); replace r1 := r1.below hb1 (Nat.le_refl _); replace r2 := r2.below hb1 (Nat.le_refl _); replace hb := hb.trans (hb1.mono hb.size); clear hb1
          go_wp2_with fail
          refine (hSm _ q1 q2).mono ?_
          rintro e V4 ⟨hb1, rfl⟩
          clear hSm
          (try clear c0 c1 c2 c3 c4); replace x0 := x0.below hb1; have c0 := x0.cell 0 rfl; have c1 := x0.cell 1 rfl; have c2 := x0.cell 2 rfl; have c3 := x0.cell 3 rfl; have c4 := x0.cell 4 rfl; (try clear d0 d1 d2 d3 d4); replace x5 := x5.below hb1; have d0 := x5.cell 0 rfl; have d1 := x5.cell 1 rfl; have d2 := x5.cell 2 rfl; have d3 := x5.cell 3 rfl; have d4 := x5.cell 4 rfl; replace q1 := q1.below hb1 (Nat.le_refl _); replace q2 := q2.below hb1 (Nat.le_refl _); replace r1 := r1.below hb1 (Nat.le_refl _); replace r2 := r2.below hb1 (Nat.le_refl _); replace hb := hb.trans (hb1.mono hb.size); clear hb1
          go_wp2_with fail
          refine (hsan al cl _ (hR.below hb (Nat.le_refl _)) (hP.below hb (Nat.le_refl _)) r1).mono ?_
          rintro e V5 ⟨rfl, hb1⟩
          clear hsan
          (try clear c0 c1 c2 c3 c4); replace x0 := x0.below hb1; have c0 := x0.cell 0 rfl; have c1 := x0.cell 1 rfl; have c2 := x0.cell 2 rfl; have c3 := x0.cell 3 rfl; have c4 := x0.cell 4 rfl; (try clear d0 d1 d2 d3 d4); replace x5 := x5.below hb1; have d0 := x5.cell 0 rfl; have d1 := x5.cell 1 rfl; have d2 := x5.cell 2 rfl; have d3 := x5.cell 3 rfl; have d4 := x5.cell 4 rfl; replace q1 := q1.below hb1 (Nat.le_refl _); replace q2 := q2.below hb1 (Nat.le_refl _); replace r1 := r1.below hb1 (Nat.le_refl _); replace r2 := r2.below hb1 (Nat.le_refl _); replace hb := hb.trans (hb1.mono hb.size); clear hb1
          go_wp2
          clear c0 c1 c2 c3 c4 d0 d1 d2 d3 d4
          go_loopw [17] (fun v17 wr' => ∃ k : Nat, k ≤ nl ∧ v17 = .int .i64 (k : Int) ∧ Below V5.heap.size V5 wr') (fun v17 _ => nl - (intOf v17).toNat)
          case atStart => exact ⟨0, Nat.zero_le _, rfl, Below.refl _ _⟩
          case round =>
            obtain ⟨k, hk, rfl, hb1⟩ := hrel
            by_cases hkl : k < nl
            · have hkI : (k : Int) < (nl : Int) := by omega
              have hk0 : (0 : Int) ≤ (k : Int) := by omega
              obtain ⟨b1, o1, u1, t1, rfl, _, g0, g1, _, _, hx1, _⟩ := (r1.below hb1 (Nat.le_refl _)).at (show k < L.length by rw [← HNL.out]; exact hkl)
              obtain ⟨b2, o2, u2, t2, rfl, _, d0, d1, _, _, hx2, _⟩ := (r2.below hb1 (Nat.le_refl _)).at (show k < (L.map (mirP n)).length by rw [List.length_map, ← HNL.out]; exact hkl)
              have he := hx2.out
              rw [List.getElem?_map, hx1.out] at he
              simp only [Option.map_some, mirP, Option.some.injEq, Prod.mk.injEq] at he
              obtain ⟨he1, rfl⟩ := he
              have hu1 := HLD.out (u1, t1) (List.mem_of_getElem? hx1.out)
              dsimp only at hu1
              have ew1 : IntKind.i64.wrap (2 * (la : Int)) = 2 * (la : Int) := IntWalk.i64_in _ (by omega)
              have ew2 : IntKind.i64.wrap (2 * (la : Int) + 1) = 2 * (la : Int) + 1 := IntWalk.i64_in _ (by omega)
              have ew3 : IntKind.i64.wrap (2 * (la : Int) + 1 - u1) = u2 := by rw [← he1, show 2 * (n : Int) - 1 - u1 = 2 * (la : Int) + 1 - u1 by omega]; exact IntWalk.i64_in _ (by omega)
              clear hx1 hx2 he1 hu1
              go_upto_region 23 with fail
              go_quiet ((fail))
              generalize hV2 : wr.drewN nq = V2'
              have hbd : Below wr.heap.size wr V2' := by rw [← hV2]; exact below_drewN (Below.refl _ _) _
              have hb2 := hb1.trans (hbd.mono hb1.size)
              clear hV2 g0 g1 d0 d1 hbd ew1 ew2 ew3
              go_wp2
              go_roundw
              case rel => exact ⟨k + 1, by omega, by go_num, hb2⟩
              case measure => simp [intOf]; omega
            · have hkI : (nl : Int) ≤ (k : Int) := by omega
              replace q1 := q1.below hb1 (Nat.le_refl _); replace q2 := q2.below hb1 (Nat.le_refl _)
              (try clear c0 c1 c2 c3 c4); replace x0 := x0.below hb1; have c0 := x0.cell 0 rfl; have c1 := x0.cell 1 rfl; have c2 := x0.cell 2 rfl; have c3 := x0.cell 3 rfl; have c4 := x0.cell 4 rfl; (try clear d0 d1 d2 d3 d4); replace x5 := x5.below hb1; have d0 := x5.cell 0 rfl; have d1 := x5.cell 1 rfl; have d2 := x5.cell 2 rfl; have d3 := x5.cell 3 rfl; have d4 := x5.cell 4 rfl; replace hb := hb.trans (hb1.mono hb.size); clear hb1
              clear r1 r2 hk hkl
              go_wp2_with fail
              refine (hDl' _ (hR.below hb (Nat.le_refl _)) (hP.below hb (Nat.le_refl _))).mono ?_
              rintro e V6 ⟨rfl, hb1⟩
              clear hDl'
              obtain ⟨V7, hV7, hbx, hsx, x18⟩ := boxes1 V6 #[.int .i64 (p : Int), .int .i64 (1), .int .i64 z2] 50
              replace hb1 := hb1.trans (hbx.mono hb1.size)
              (try clear c0 c1 c2 c3 c4); replace x0 := x0.below hb1; have c0 := x0.cell 0 rfl; have c1 := x0.cell 1 rfl; have c2 := x0.cell 2 rfl; have c3 := x0.cell 3 rfl; have c4 := x0.cell 4 rfl; (try clear d0 d1 d2 d3 d4); replace x5 := x5.below hb1; have d0 := x5.cell 0 rfl; have d1 := x5.cell 1 rfl; have d2 := x5.cell 2 rfl; have d3 := x5.cell 3 rfl; have d4 := x5.cell 4 rfl; replace q1 := q1.below hb1 (Nat.le_refl _); replace q2 := q2.below hb1 (Nat.le_refl _); replace hb := hb.trans (hb1.mono hb.size); clear hb1
              clear hsx hbx
              go_wp2_with fail
              refine (hDm' _ q1 q2).mono ?_
              rintro e V8 ⟨rfl, hb1⟩
              clear hDm' hV7
              obtain ⟨V9, hV9, hbx, hsx, x19⟩ := boxes1 V8 #[.int .i64 (p' : Int), .int .i64 (-1), .int .i64 z3] 50
              replace hb1 := hb1.trans (hbx.mono hb1.size)
              replace x18 := x18.below hb1; replace hb := hb.trans (hb1.mono hb.size); clear hb1
              clear hsx hbx x0 x5 q1 q2 c0 c1 c2 c3 c4 d0 d1 d2 d3 d4
              have c0 := x18.cell 0 rfl; have c1 := x18.cell 1 rfl; have c2 := x18.cell 2 rfl
              have d0 := x19.cell 0 rfl; have d1 := x19.cell 1 rfl; have d2 := x19.cell 2 rfl
              have ew1 : IntKind.i64.wrap (2 * (la : Int)) = 2 * (la : Int) := IntWalk.i64_in _ (by omega)
              have ew2 : IntKind.i64.wrap (2 * (la : Int) + 1) = 2 * (la : Int) + 1 := IntWalk.i64_in _ (by omega)
              have ew4 : IntKind.i64.wrap ((la : Int) - (p : Int)) = (p' : Int) := by rw [HPP.out]; exact IntWalk.i64_in _ (by have := HPP.out; omega)
              obtain ⟨V10, hV10, hbx, hsx, x20⟩ := boxes1 V9 #[.int .i64 (p' : Int), .int .i64 (-1), .int .i64 (-1)] 50
              obtain ⟨g20, hg20⟩ : ∃ g, g = V9.heap.size := ⟨_, rfl⟩
              have l18 := x18.lt; have l19 := x19.lt
              have y19 := x19.below hbx
              have z18 := x18.below hbx
              have s0 := z18.cell 0 rfl; have s1 := z18.cell 1 rfl; have s2 := z18.cell 2 rfl
              have hb10 := hb.trans (hbx.mono hb.size)
              clear hsx hbx
              by_cases hneg : z2 < 0
              · have hz2 : z2 = -1 := by omega
                have hz3 : z3 = -1 := by rw [HZ3.out, if_pos hz2]
                subst hz2
                subst hz3
                have f0 := x20.cell 0 rfl; have f1 := x20.cell 1 rfl; have f2 := x20.cell 2 rfl
                have k0 := y19.cell 0 rfl; have k1 := y19.cell 1 rfl; have k2 := y19.cell 2 rfl
                clear x18 x19 HZ3
                go_wp2_with fail
                clear hV10
                replace hb := hb10
                clear c0 c1 c2 d0 d1 d2 f0 f1 f2 k0 k1 k2 s0 s1 s2
                refine (works_any _).mono ?_
                rintro e V3 ⟨rfl, hb1⟩
                replace hb := hb.trans (hb1.mono hb.size)
                clear hb1
                go_wp2
                go_ret
                exact ⟨rfl, hb⟩
              · have hz3 : z3 = 2 * (la : Int) + 1 - z2 := by rw [HZ3.out, if_neg (by omega)]; omega
                have ew5 : IntKind.i64.wrap (2 * (la : Int) + 1 - z2) = z3 := by rw [hz3]; exact IntWalk.i64_in _ (by omega)
                have hz20 : 0 ≤ z2 := by omega
                clear hneg hz3 HZ3
                have fr := x20.free 2
                have f0 := x20.cell 0 rfl; have f1 := x20.cell 1 rfl; have f2 := x20.cell 2 rfl
                go_upto_region 32 with fail
                have x20s : Bx (V10.setCell ⟨V9.heap.size, 2, none⟩ (.int .i64 z3)) V9.heap.size #[.int .i64 (p' : Int), .int .i64 (-1), .int .i64 z3] 50 := x20.set 2 (.int .i64 z3)
                have y19s := y19.other (a := ⟨V9.heap.size, 2, none⟩) (by show V8.heap.size ≠ V9.heap.size; omega) (.int .i64 z3)
                have hbs := hb10.setCell (p := ⟨V9.heap.size, 2, none⟩) hb.size (.int .i64 z3)
                clear f0 f1 f2 s0 s1 s2 fr x20 y19 hb10 z18 c0 c1 c2 d0 d1 d2 ew1 ew2 ew4 ew5
                generalize V10.setCell ⟨V9.heap.size, 2, none⟩ (.int .i64 z3) = V11 at *
                clear hV10 hV9 x18 x19 hb
                replace hb := hbs
                have f0 := x20s.cell 0 rfl; have f1 := x20s.cell 1 rfl; have f2 := x20s.cell 2 rfl
                have k0 := y19s.cell 0 rfl; have k1 := y19s.cell 1 rfl; have k2 := y19s.cell 2 rfl
                go_wp2_with fail
                refine (works_any _).mono ?_
                rintro e V3 ⟨rfl, hb1⟩
                replace hb := hb.trans (hb1.mono hb.size)
                clear hb1 f0 f1 f2 k0 k1 k2
                go_wp2
                go_ret
                exact ⟨rfl, hb⟩

set_option maxRecDepth 100000 in
set_option maxHeartbeats 8000000 in
theorem tt_false (ar ap : Option Addr) (cr cp : Nat) (rs ps : List (Int × Int)) (p0 way step : Int) (time : Int) (w : World) (hR : Prs w ar rs) (hP : Prs w ap ps) (hv : rdB rs ps p0 way step = true) (hit : inR 0 time 9999 = true) (T : Tr) (hT : IsTr T rs ps p0 way step) (hup : (runM T (time + 1)).up = false) :
    Calls Try.prog 7 #[.agg #[.slice ar rs.length cr, .int .i64 p0, .int .i64 way, .int .i64 step, .slice ap ps.length cp], .int .i64 time] w (WorksP w) := by
  obtain ⟨hr6, hp12, hr1⟩ := rdB_6b9 (rdB_len hv)
  have hvt := rdB_len hv
  have hyI := inR_iff.1 hit
  have hVT := hT.hv
  have hTm := mir_is hT
  have hvm := trB_of9 hTm (by rw [List.length_map]; exact hp12)
  obtain ⟨n, hn⟩ : ∃ n, n = rs.length := ⟨_, rfl⟩
  obtain ⟨m, hm⟩ : ∃ m, m = ps.length := ⟨_, rfl⟩
  have HN := hid hn; have HM := hid hm
  have hps : ∀ p ∈ ps, 0 ≤ p.1 ∧ p.1 < 2 * (rs.length : Int) := fun p hp => by have h1 := hVT.pr p (by rw [hT.T2]; exact hp); rw [hT.T1] at h1; omega
  have HPS := hid hps
  have hw1 : way = 1 ∨ way = -1 := by
    have h5 := hT.T5
    split at h5 <;> omega
  have hq0 : 0 ≤ p0 ∧ p0 < (rs.length : Int) := by
    have h4 := hT.T4
    have h6 := hVT.at0
    rw [hT.T1] at h6
    omega
  have HALL := hid (And.intro hv (And.intro hvt (And.intro hT (And.intro hTm (And.intro hvm (And.intro hVT hup))))))
  have hcp := fun V h1 h2 => copy_any ar ap cr cp rs ps p0 way step V h1 h2 (by have := HN.out; omega) (by have := HM.out; omega)
  unfold CopyP at hcp
  rw [← hn, ← hm] at hcp ⊢
  rw [← hn] at hr6 hr1 hq0; rw [← hm] at hp12
  obtain ⟨W, hW, hb, hs, x0⟩ := boxes1 w #[.slice ar n cr, .int .i64 p0, .int .i64 way, .int .i64 step, .slice ap m cp] 25
  clear hs
  have hrd := ready_any ar ap cr cp rs ps p0 way step W (by have := HN.out; omega) (by have := HM.out; omega) (fun h => hR.below hb (Nat.le_refl _)) (fun h => hP.below hb (Nat.le_refl _))
  rw [hv, ← hn, ← hm] at hrd
  have c0 := x0.cell 0 rfl; have c1 := x0.cell 1 rfl; have c2 := x0.cell 2 rfl; have c3 := x0.cell 3 rfl; have c4 := x0.cell 4 rfl
  clear hv hvt hTm hvm hVT hup hT hps hn hm
  obtain ⟨la, hla⟩ : ∃ la, la = n - 1 := ⟨_, rfl⟩
  have hlaI : (n : Int) - 1 = (la : Int) := by omega
  have hla6 : (la : Int) ≤ 5 := by omega
  have hmI : (m : Int) ≤ 12 := by omega
  have hnI : (n : Int) ≤ 6 := by omega
  have HLA := hid hla
  clear hla
  go_enter Try.func7, Try.ntmps7
  go_wp2_with fail
  refine hrd.mono ?_
  rintro e W1 ⟨rfl, hb1⟩
  clear hW hrd
  (try clear c0 c1 c2 c3 c4); replace x0 := x0.below hb1; have c0 := x0.cell 0 rfl; have c1 := x0.cell 1 rfl; have c2 := x0.cell 2 rfl; have c3 := x0.cell 3 rfl; have c4 := x0.cell 4 rfl; replace hb := hb.trans (hb1.mono hb.size); clear hb1
  go_wp2_with fail
  refine (refTime_any _ _).mono ?_
  rintro e W3 ⟨rfl, rfl⟩
  rw [hit]
  go_wp2_with fail
  refine (hcp _ (hR.below hb (Nat.le_refl _)) (hP.below hb (Nat.le_refl _))).mono ?_
  rintro e W2 ⟨hb1, a1, a2, c1', c2', rfl, own1, own2, hdis⟩
  clear hcp
  have hl1 := own_lt own1; have hl2 := own_lt own2
  obtain ⟨B0, hB0⟩ : ∃ B, B = W1.heap.size := ⟨_, rfl⟩
  have hxB : w.heap.size < B0 := by rw [hB0]; exact x0.lt
  rw [← hB0] at own1 own2
  replace x0 := x0.below hb1
  replace hb := hb.trans (hb1.mono hb.size)
  obtain ⟨b5, hb5⟩ : ∃ b, W2.heap.size = b := ⟨_, rfl⟩
  have hbx := below_one (w := W2) (.cells #[.slice a1 n c1', .int .i64 p0, .int .i64 way, .int .i64 step, .slice a2 m c2'] 25)
  have hB5 : B0 ≤ b5 := by rw [hB0, ← hb5]; exact hb1.size
  have x0p := x0.below hbx
  have HL := hid (show TtO w.heap.size B0 b5 n m ar ap a1 a2 cr cp c1' c2' p0 way step p0 way w ((mirR rs).take 0 ++ rs.drop 0) ps (W2.alloc (.cells #[.slice a1 n c1', .int .i64 p0, .int .i64 way, .int .i64 step, .slice a2 m c2'] 25)) from
    ⟨x0p, Bx.new' hb5 _ _, by simpa using own_below2 own1 hbx, own_below2 own2 hbx, hb.trans (hbx.mono hb.size)⟩)
  rw [hb5] at hl1 hl2
  have HD := hid hdis
  clear c0 c1 c2 c3 c4
  have c0 := x0p.cell 0 rfl; have c1 := x0p.cell 1 rfl; have c2 := x0p.cell 2 rfl; have c3 := x0p.cell 3 rfl; have c4 := x0p.cell 4 rfl
  clear x0 own1 own2 hb hbx hb1 hB0 hdis
  go_wp2
  clear c0 c1 c2 c3 c4 x0p
  go_loopw [7] (fun v7 wr => ∃ i : Nat, i ≤ n ∧ v7 = .int .i64 (i : Int) ∧ TtO w.heap.size B0 b5 n m ar ap a1 a2 cr cp c1' c2' p0 way step p0 way w ((mirR rs).take i ++ rs.drop i) ps wr) (fun v7 _ => n - (intOf v7).toNat)
  case atStart => exact ⟨0, Nat.zero_le _, rfl, HL.out⟩
  case round =>
    clear HL
    obtain ⟨i, hi, rfl, HR⟩ := hrel
    obtain ⟨x0, x5, own1, own2, hb⟩ := HR
    by_cases hlt : i < n
    · have hiI : (i : Int) ≤ (la : Int) := by omega
      have hi0 : (0 : Int) ≤ (i : Int) := by omega
      obtain ⟨s, hs⟩ : ∃ s, s = n - 1 - i := ⟨_, rfl⟩
      have hsI : (la : Int) - (i : Int) = (s : Int) := by omega
      have hsn : (s : Int) < (n : Int) := by omega
      have hs0 : (0 : Int) ≤ (s : Int) := by omega
      have hin : (i : Int) < (n : Int) := by omega
      obtain ⟨br, or_, u, t, rfl, _, hr1', hr2', hub, htb, hru, _⟩ := hR.at (show s < rs.length by rw [← HN.out]; omega)
      have hod : (mirR rs)[i]? = some (t, u) := mirR_get (by rw [← HN.out]; exact hlt) (by rw [← HN.out, ← hs]; exact hru.out)
      obtain ⟨pd, hpd⟩ : ∃ q, rs[i]? = some q := ⟨_, List.getElem?_eq_getElem (show i < rs.length by rw [← HN.out]; exact hlt)⟩
      obtain ⟨g1, cap, e2, hg1⟩ : ∃ g1 cap, Value.slice a1 n c1' = .slice (some ⟨g1, 0, none⟩) n cap ∧ B0 ≤ g1 := by
        rcases own1.2 with ⟨_, h0⟩ | ⟨g1, cap, cur, e, hge, _⟩
        · omega
        · exact ⟨g1, cap, e, hge⟩
      simp only [Value.slice.injEq, true_and] at e2
      obtain ⟨rfl, rfl⟩ := e2
      have hg15 := hl1 g1 rfl
      have hA : ((mirR rs).take i).length = i := by rw [List.length_take, mirR_len]; have := HN.out; omega
      have hdr : rs.drop i = pd :: rs.drop (i + 1) := by
        have hil : i < rs.length := by rw [← HN.out]; exact hlt
        rw [List.drop_eq_getElem_cons hil]
        rw [List.getElem?_eq_getElem hil] at hpd
        injection hpd with e
        rw [e]
      have hcell := World.ownsRow.cellAt own1 (i * 2) (by omega)
      have hcell1 := World.ownsRow.cellAt own1 (i * 2 + 1) (by omega)
      have hv0 : (pcells ((mirR rs).take i ++ rs.drop i))[i * 2]? = some (.int .i64 pd.1) := by rw [hdr]; exact pcells_get _ _ _ hA
      have hv1 : ∃ z, (pcells ((mirR rs).take i ++ rs.drop i))[i * 2 + 1]? = some z := ⟨_, List.getElem?_eq_getElem (by rw [pcells_len, List.length_append, List.length_drop, hA]; have := HN.out; omega)⟩
      obtain ⟨z1, hv1⟩ := hv1
      rw [hv0] at hcell
      rw [hv1] at hcell1
      have fr0 := own1.frozenAt (i * 2)
      have fr1 := own1.frozenAt (i * 2 + 1)
      have HOD := hid (And.intro hod (And.intro hdr hA))
      clear hod hpd hdr hA hv0 hv1 hru hs
      go_upto_region 8 with fail
      have hbd := (Below.refl wr.heap.size wr).drew
      have x0d := x0.below hbd; have x5d := x5.below hbd
      have own1d := own_below2 own1 hbd; have own2d := own_below2 own2 hbd
      have hbb := hb.trans (hbd.mono hb.size)
      have hcd := Below.keep hbd hcell; have hcd1 := Below.keep hbd hcell1
      have fd0 := own1d.frozenAt (i * 2); have fd1 := own1d.frozenAt (i * 2 + 1)
      clear hbd x0 x5 own1 own2 hb hcell hcell1 fr0 fr1
      refine wp_region_head 20 (fun w' => Bx w' w.heap.size #[.slice (some ⟨br, or_, none⟩) n cr, .int .i64 p0, .int .i64 way, .int .i64 step, .slice ap m cp] 25 ∧ Bx w' b5 #[.slice (some ⟨g1, 0, none⟩) n c1', .int .i64 p0, .int .i64 way, .int .i64 step, .slice a2 m c2'] 25 ∧ w'.cell? ⟨br, or_ + s * 2, none⟩ = some (.int .i64 u) ∧ w'.cell? ⟨br, or_ + s * 2 + 1, none⟩ = some (.int .i64 t)) (by kernel_rfl) rfl ?_
      generalize wr.drew = Y0 at *
      have S0 := And.intro x0d (And.intro x5d (And.intro (Below.keep hbb hr1') (Below.keep hbb hr2')))
      have ews : IntKind.i64.wrap (s : Int) = (s : Int) := IntWalk.i64_in _ (by omega)
      refine HeadAt.take (i := 0) (.pointer (some ⟨b5, 0, none⟩)) rfl (by kernel_rfl) (.inl ⟨rfl, fun _ _ => by simp [go_sem]⟩) S0 ?_
      refine HeadAt.take (i := 1) (.slice (some ⟨g1, 0, none⟩) n c1') rfl (by kernel_rfl) (.inl ⟨rfl, fun w' z => ?_⟩) S0 ?_
      · (have z0 := z.2.1.cell 0 rfl; simp [go_sem, z0])
      refine HeadAt.take (i := 2) (.int .i64 (i : Int)) rfl (by kernel_rfl) (.inl ⟨rfl, fun _ _ => by simp [go_sem]⟩) S0 ?_
      refine HeadAt.take (i := 3) (.pointer (some ⟨w.heap.size, 0, none⟩)) rfl (by kernel_rfl) (.inl ⟨rfl, fun _ _ => by simp [go_sem]⟩) S0 ?_
      simp only [Act.put, List.getElem_toArray, List.getElem_cons_succ, List.getElem_cons_zero, List.setIfInBounds_toArray, List.set_cons_succ, List.set_cons_zero]
      refine HeadAt.take (i := 4) (.slice (some ⟨br, or_, none⟩) n cr) rfl (by kernel_rfl) (.inl ⟨rfl, fun w' z => ?_⟩) S0 ?_
      · (have z0 := z.1.cell 0 rfl; simp [go_sem, z0])
      refine HeadAt.take (i := 5) (.int .i64 (la : Int)) rfl (by kernel_rfl) (.inl ⟨rfl, fun _ _ => by simp [go_sem]⟩) S0 ?_
      refine HeadAt.take (i := 6) (.int .i64 (i : Int)) rfl (by kernel_rfl) (.inl ⟨rfl, fun _ _ => by simp [go_sem]⟩) S0 ?_
      simp only [Act.put, List.getElem_toArray, List.getElem_cons_succ, List.getElem_cons_zero, List.setIfInBounds_toArray, List.set_cons_succ, List.set_cons_zero]
      refine HeadAt.take (i := 7) (.int .i64 (s : Int)) rfl (by kernel_rfl) (.inl ⟨rfl, fun w' z => ?_⟩) S0 ?_
      · (simp [go_sem, hsI, ews])
      refine HeadAt.take (i := 8) (.pointer (some ⟨br, or_ + s * 2, none⟩)) rfl (by kernel_rfl) (.inl ⟨rfl, fun w' z => ?_⟩) S0 ?_
      · (simp [go_sem, hsn, hs0])
      refine HeadAt.take (i := 9) (.pointer (some ⟨br, or_ + s * 2 + 1, none⟩)) rfl (by kernel_rfl) (.inl ⟨rfl, fun _ _ => by simp [go_sem]⟩) S0 ?_
      simp only [Act.put, List.getElem_toArray, List.getElem_cons_succ, List.getElem_cons_zero, List.setIfInBounds_toArray, List.set_cons_succ, List.set_cons_zero]
      refine HeadAt.take (i := 10) (.int .i64 t) rfl (by kernel_rfl) (.inl ⟨rfl, fun w' z => ?_⟩) S0 ?_
      · (simp [go_sem, z.2.2.2])
      refine HeadAt.take (i := 11) (.pointer (some ⟨w.heap.size, 0, none⟩)) rfl (by kernel_rfl) (.inl ⟨rfl, fun _ _ => by simp [go_sem]⟩) S0 ?_
      refine HeadAt.take (i := 12) (.slice (some ⟨br, or_, none⟩) n cr) rfl (by kernel_rfl) (.inl ⟨rfl, fun w' z => ?_⟩) S0 ?_
      · (have z0 := z.1.cell 0 rfl; simp [go_sem, z0])
      refine HeadAt.take (i := 13) (.int .i64 (la : Int)) rfl (by kernel_rfl) (.inl ⟨rfl, fun _ _ => by simp [go_sem]⟩) S0 ?_
      refine HeadAt.take (i := 14) (.int .i64 (i : Int)) rfl (by kernel_rfl) (.inl ⟨rfl, fun _ _ => by simp [go_sem]⟩) S0 ?_
      simp only [Act.put, List.getElem_toArray, List.getElem_cons_succ, List.getElem_cons_zero, List.setIfInBounds_toArray, List.set_cons_succ, List.set_cons_zero]
      refine HeadAt.take (i := 15) (.int .i64 (s : Int)) rfl (by kernel_rfl) (.inl ⟨rfl, fun w' z => ?_⟩) S0 ?_
      · (simp [go_sem, hsI, ews])
      refine HeadAt.take (i := 16) (.pointer (some ⟨br, or_ + s * 2, none⟩)) rfl (by kernel_rfl) (.inl ⟨rfl, fun w' z => ?_⟩) S0 ?_
      · (simp [go_sem, hsn, hs0])
      refine HeadAt.take (i := 17) (.pointer (some ⟨br, or_ + s * 2, none⟩)) rfl (by kernel_rfl) (.inl ⟨rfl, fun _ _ => by simp [go_sem]⟩) S0 ?_
      simp only [Act.put, List.getElem_toArray, List.getElem_cons_succ, List.getElem_cons_zero, List.setIfInBounds_toArray, List.set_cons_succ, List.set_cons_zero]
      refine HeadAt.take (i := 18) (.int .i64 u) rfl (by kernel_rfl) (.inl ⟨rfl, fun w' z => ?_⟩) S0 ?_
      · (simp [go_sem, z.2.2.1])
      refine HeadAt.take (i := 19) (.agg #[.int .i64 t, .int .i64 u]) rfl (by kernel_rfl) (.inl ⟨rfl, fun w' z => ?_⟩) S0 ?_
      · (simp [go_sem])
      refine HeadAt.done (by kernel_rfl) ?_
      (try simp only [Act.put, List.drop_succ_cons, List.drop_zero, List.getElem_toArray, List.getElem_cons_succ, List.getElem_cons_zero])
      clear S0
      obtain ⟨own3, gs1⟩ := own1d.stored (i * 2) (.int .i64 t)
      have hcd1' : (Y0.setCell ⟨g1, i * 2, none⟩ (.int .i64 t)).cell? ⟨g1, i * 2 + 1, none⟩ = some z1 := by
        have h := World.ownsRow.cellAt own3 (i * 2 + 1) (by omega)
        rw [h, List.getElem?_set, if_neg (by omega)]
        have h2 := World.ownsRow.cellAt own1d (i * 2 + 1) (by omega)
        rw [hcd1] at h2
        exact h2.symm
      have fd2 := own3.frozenAt (i * 2 + 1)
      obtain ⟨own4, gs2⟩ := own3.stored (i * 2 + 1) (.int .i64 u)
      have gs := gtr gs1 gs2
      have HF := hid (show TtO w.heap.size B0 b5 n m (some ⟨br, or_, none⟩) ap (some ⟨g1, 0, none⟩) a2 cr cp c1' c2' p0 way step p0 way w ((mirR rs).take (i + 1) ++ rs.drop (i + 1)) ps _ from
        ⟨x0d.gb gs (fun k hk => by cases hk; omega), x5d.gb gs (fun k hk => by cases hk; omega),
          by rw [take_snocI HOD.out.1, List.append_assoc]; rw [HOD.out.2.1, pcells_put2A9 _ _ _ _ _ HOD.out.2.2] at own4; exact own4,
          own_keep own2d gs (fun k hk e => by injection e with e; exact HD.out _ rfl (by rw [hk, e])),
          hbb.grown gs hbb.size (fun k hk => by cases hk; omega)⟩)
      clear own3 gs1 own4 gs2 gs x0d x5d own1d own2d hbb
      go_wp2_with fail
      refine NoPanic.normal ?_
      go_wp2
      go_roundw
      case rel => exact ⟨i + 1, by omega, by go_num, HF.out⟩
      case measure => simp [intOf]; omega
    · have hiI : (la : Int) < (i : Int) := by omega
      have e1 : (mirR rs).take i ++ rs.drop i = mirR rs := by
        rw [List.take_of_length_le (by rw [mirR_len]; have := HN.out; omega), List.drop_eq_nil_iff.2 (by have := HN.out; omega), List.append_nil]
      rw [e1] at own1
      clear e1
      have hd38 : decide ((i : Int) ≤ (la : Int)) = false := by simp; omega
      have hd39 : decide (i ≤ la) = false := by simp; omega
      have wp0 : IntKind.i64.wrap ((la : Int) - p0) = (la : Int) - p0 := IntWalk.i64_in _ (by omega)
      have wpn : IntKind.i64.wrap (-way) = -way := IntWalk.i64_in _ (by omega)
      go_upto_region 9 with fail
      have hbd := (Below.refl wr.heap.size wr).drew
      have x0d := x0.below hbd; have x5d := x5.below hbd
      have own1d := own_below2 own1 hbd; have own2d := own_below2 own2 hbd
      have hbb := hb.trans (hbd.mono hb.size)
      clear hbd x0 x5 own1 own2 hb
      refine wp_region_head 9 (fun w' => Bx w' w.heap.size #[.slice ar n cr, .int .i64 p0, .int .i64 way, .int .i64 step, .slice ap m cp] 25) (by kernel_rfl) rfl ?_
      generalize wr.drew = Y0 at *
      have S0 := x0d
      refine HeadAt.take (i := 0) (.int .i64 (la : Int)) rfl (by kernel_rfl) (.inl ⟨rfl, fun _ _ => by simp [go_sem]⟩) S0 ?_
      refine HeadAt.take (i := 1) (.pointer (some ⟨w.heap.size, 1, none⟩)) rfl (by kernel_rfl) (.inl ⟨rfl, fun _ _ => by simp [go_sem]⟩) S0 ?_
      refine HeadAt.take (i := 2) (.int .i64 p0) rfl (by kernel_rfl) (.inl ⟨rfl, fun w' z => ?_⟩) S0 ?_
      · (have z0 := z.cell 1 rfl; simp [go_sem, z0])
      refine HeadAt.take (i := 3) (.int .i64 ((la : Int) - p0)) rfl (by kernel_rfl) (.inl ⟨rfl, fun w' z => ?_⟩) S0 ?_
      · (simp [go_sem, wp0])
      simp only [Act.put, List.getElem_toArray, List.getElem_cons_succ, List.getElem_cons_zero, List.setIfInBounds_toArray, List.set_cons_succ, List.set_cons_zero]
      refine HeadAt.take (i := 4) (.pointer (some ⟨w.heap.size, 2, none⟩)) rfl (by kernel_rfl) (.inl ⟨rfl, fun _ _ => by simp [go_sem]⟩) S0 ?_
      refine HeadAt.take (i := 5) (.int .i64 way) rfl (by kernel_rfl) (.inl ⟨rfl, fun w' z => ?_⟩) S0 ?_
      · (have z0 := z.cell 2 rfl; simp [go_sem, z0])
      refine HeadAt.take (i := 6) (.int .i64 (-way)) rfl (by kernel_rfl) (.inl ⟨rfl, fun w' z => ?_⟩) S0 ?_
      · (simp [go_sem, wpn])
      simp only [Act.put, List.getElem_toArray, List.getElem_cons_succ, List.getElem_cons_zero, List.setIfInBounds_toArray, List.set_cons_succ, List.set_cons_zero]
      refine HeadAt.take (i := 7) (.pointer (some ⟨b5, 1, none⟩)) rfl (by kernel_rfl) (.inl ⟨rfl, fun _ _ => by simp [go_sem]⟩) S0 ?_
      simp only [Act.put, List.getElem_toArray, List.getElem_cons_succ, List.getElem_cons_zero, List.setIfInBounds_toArray, List.set_cons_succ, List.set_cons_zero]
      clear wp0 wpn
      have f1 := x5d.free 1
      have k1 := x5d.cell 1 rfl
      have g1 : Y0.grownBy (Y0.setCell ⟨b5, 1, none⟩ (.int .i64 ((la : Int) - p0))) (some b5) := gset Y0 ⟨b5, 1, none⟩ (.int .i64 ((la : Int) - p0))
      have S1 := S0.gb g1 (fun k hk => by cases hk; omega)
      have HX := hid (And.intro x0d (And.intro x5d (And.intro own1d (And.intro own2d (And.intro hbb (And.intro g1 S1))))))
      clear x0d x5d own1d own2d hbb g1 S1 S0
      refine HeadAt.one (i := 8) rfl (by kernel_rfl) ?_
      generalize hK : Upto _ _ = K0
      (try simp only [List.getElem_toArray, List.getElem_cons_succ, List.getElem_cons_zero])
      go_wp2_with fail
      subst hK
      clear f1 k1
      obtain ⟨x0d, x5d, own1d, own2d, hbb, g1, S1⟩ := HX.out
      clear HX
      refine ⟨S1, ?_⟩
      refine HeadAt.done (by kernel_rfl) ?_
      (try simp only [List.drop_succ_cons, List.drop_zero])
      clear S1
      have f2 := (x5d.set 1 (.int .i64 ((la : Int) - p0))).free 2
      have k2 := (x5d.set 1 (.int .i64 ((la : Int) - p0))).cell 2 rfl
      have g2 : (Y0.setCell ⟨b5, 1, none⟩ (.int .i64 ((la : Int) - p0))).grownBy ((Y0.setCell ⟨b5, 1, none⟩ (.int .i64 ((la : Int) - p0))).setCell ⟨b5, 2, none⟩ (.int .i64 (-way))) (some b5) := gset (Y0.setCell ⟨b5, 1, none⟩ (.int .i64 ((la : Int) - p0))) ⟨b5, 2, none⟩ (.int .i64 (-way))
      have gs := gtr g1 g2
      clear g1 g2
      have x5b : Bx _ b5 #[.slice a1 n c1', .int .i64 ((la : Int) - p0), .int .i64 (-way), .int .i64 step, .slice a2 m c2'] 25 := (x5d.set 1 (.int .i64 ((la : Int) - p0))).set 2 (.int .i64 (-way))
      have d4 := x5b.cell 4 rfl
      have HF := hid (show TtO w.heap.size B0 b5 n m ar ap a1 a2 cr cp c1' c2' p0 way step ((la : Int) - p0) (-way) w (mirR rs) ((ps.map (mirP n)).take 0 ++ ps.drop 0) _ from
        ⟨x0d.gb gs (fun k hk => by cases hk; omega), x5b,
          own_keep own1d gs (fun k hk e => by have := hl1 k hk; injection e with e; omega),
          by simpa using own_keep own2d gs (fun k hk e => by have := hl2 k hk; injection e with e; omega),
          hbb.grown gs hbb.size (fun k hk => by cases hk; omega)⟩)
      clear gs x5b x0d x5d own1d own2d hbb
      go_wp2_with fail
      refine NoPanic.normal ?_
      clear f2 k2
      go_wp2
      clear d4 hd38 hd39 hiI hlt hi
      go_loopw [8] (fun v8 wr => ∃ i : Nat, i ≤ m ∧ v8 = .int .i64 (i : Int) ∧ TtO w.heap.size B0 b5 n m ar ap a1 a2 cr cp c1' c2' p0 way step ((la : Int) - p0) (-way) w (mirR rs) ((ps.map (mirP n)).take i ++ ps.drop i) wr) (fun v8 _ => m - (intOf v8).toNat)
      case atStart => exact ⟨0, Nat.zero_le _, rfl, HF.out⟩
      case round =>
        clear HF
        obtain ⟨i, hi, rfl, HR⟩ := hrel
        obtain ⟨x0, x5, own1, own2, hb⟩ := HR
        by_cases hlt2 : i < m
        · have hiI : (i : Int) < (m : Int) := by omega
          have hi0 : (0 : Int) ≤ (i : Int) := by omega
          obtain ⟨bp, op, u, t, rfl, _, hp1, hp2, hub, htb, hpi, hpd⟩ := hP.at (show i < ps.length by rw [← HM.out]; exact hlt2)
          have hum := HPS.out (u, t) (List.mem_of_getElem? hpi.out)
          rw [← HN.out] at hum
          dsimp only at hum
          obtain ⟨z, hz⟩ : ∃ z, z = 2 * (la : Int) + 1 - u := ⟨_, rfl⟩
          have ew1 : IntKind.i64.wrap (2 * (la : Int)) = 2 * (la : Int) := IntWalk.i64_in _ (by omega)
          have ew2 : IntKind.i64.wrap (2 * (la : Int) + 1) = 2 * (la : Int) + 1 := IntWalk.i64_in _ (by omega)
          have ew3 : IntKind.i64.wrap (2 * (la : Int) + 1 - u) = z := by rw [hz]; exact IntWalk.i64_in _ (by omega)
          have hoi : (ps.map (mirP n))[i]? = some (z, t) := by
            rw [List.getElem?_map, hpi.out]
            show some (mirP n (u, t)) = _
            unfold mirP
            dsimp only
            rw [show 2 * (n : Int) - 1 - u = z by omega]
          obtain ⟨g2, cap, e2, hg2⟩ : ∃ g2 cap, Value.slice a2 m c2' = .slice (some ⟨g2, 0, none⟩) m cap ∧ B0 ≤ g2 := by
            rcases own2.2 with ⟨_, h0⟩ | ⟨g2, cap, cur, e, hge, _⟩
            · omega
            · exact ⟨g2, cap, e, hge⟩
          simp only [Value.slice.injEq, true_and] at e2
          obtain ⟨rfl, rfl⟩ := e2
          have hg25 := hl2 g2 rfl
          have hA : ((ps.map (mirP n)).take i).length = i := by rw [List.length_take, List.length_map]; have := HM.out; omega
          have HOI := hid (And.intro hoi (And.intro hpd.out hA))
          have hpw1 := Below.keep hb hp1
          clear hoi hpi hpd hum hA hz
          have d0 := x5.cell 0 rfl; have d1 := x5.cell 1 rfl; have d2 := x5.cell 2 rfl; have d3 := x5.cell 3 rfl; have d4 := x5.cell 4 rfl
          go_upto_region 13 with fail
          clear d0 d1 d2 d3 d4
          have hbd := (Below.refl wr.heap.size wr).drew
          have x0d := x0.below hbd; have x5d := x5.below hbd
          have own1d := own_below2 own1 hbd; have own2d := own_below2 own2 hbd
          have hbb := hb.trans (hbd.mono hb.size)
          clear hbd x0 x5 own1 own2 hb hpw1
          refine wp_region_head 13 (fun w' => Bx w' w.heap.size #[.slice ar n cr, .int .i64 p0, .int .i64 way, .int .i64 step, .slice (some ⟨bp, op, none⟩) m cp] 25 ∧ Bx w' b5 #[.slice a1 n c1', .int .i64 ((la : Int) - p0), .int .i64 (-way), .int .i64 step, .slice (some ⟨g2, 0, none⟩) m c2'] 25 ∧ w'.cell? ⟨bp, op + i * 2, none⟩ = some (.int .i64 u)) (by kernel_rfl) rfl ?_
          generalize wr.drew = Y0 at *
          have S0 := And.intro x0d (And.intro x5d (Below.keep hbb hp1))
          refine HeadAt.take (i := 0) (.pointer (some ⟨b5, 4, none⟩)) rfl (by kernel_rfl) (.inl ⟨rfl, fun _ _ => by simp [go_sem]⟩) S0 ?_
          refine HeadAt.take (i := 1) (.slice (some ⟨g2, 0, none⟩) m c2') rfl (by kernel_rfl) (.inl ⟨rfl, fun w' z => ?_⟩) S0 ?_
          · (have z0 := z.2.1.cell 4 rfl; simp [go_sem, z0])
          refine HeadAt.take (i := 2) (.int .i64 (i : Int)) rfl (by kernel_rfl) (.inl ⟨rfl, fun _ _ => by simp [go_sem]⟩) S0 ?_
          refine HeadAt.take (i := 3) (.int .i64 (la : Int)) rfl (by kernel_rfl) (.inl ⟨rfl, fun _ _ => by simp [go_sem]⟩) S0 ?_
          simp only [Act.put, List.getElem_toArray, List.getElem_cons_succ, List.getElem_cons_zero, List.setIfInBounds_toArray, List.set_cons_succ, List.set_cons_zero]
          refine HeadAt.take (i := 4) (.int .i64 (2 * (la : Int))) rfl (by kernel_rfl) (.inl ⟨rfl, fun w' z => ?_⟩) S0 ?_
          · (simp [go_sem, ew1])
          refine HeadAt.take (i := 5) (.int .i64 (2 * (la : Int) + 1)) rfl (by kernel_rfl) (.inl ⟨rfl, fun w' z => ?_⟩) S0 ?_
          · (simp [go_sem, ew2])
          refine HeadAt.take (i := 6) (.pointer (some ⟨w.heap.size, 4, none⟩)) rfl (by kernel_rfl) (.inl ⟨rfl, fun _ _ => by simp [go_sem]⟩) S0 ?_
          refine HeadAt.take (i := 7) (.slice (some ⟨bp, op, none⟩) m cp) rfl (by kernel_rfl) (.inl ⟨rfl, fun w' z => ?_⟩) S0 ?_
          · (have z0 := z.1.cell 4 rfl; simp [go_sem, z0])
          refine HeadAt.take (i := 8) (.int .i64 (i : Int)) rfl (by kernel_rfl) (.inl ⟨rfl, fun _ _ => by simp [go_sem]⟩) S0 ?_
          simp only [Act.put, List.getElem_toArray, List.getElem_cons_succ, List.getElem_cons_zero, List.setIfInBounds_toArray, List.set_cons_succ, List.set_cons_zero]
          refine HeadAt.take (i := 9) (.pointer (some ⟨bp, op + i * 2, none⟩)) rfl (by kernel_rfl) (.inl ⟨rfl, fun w' z => ?_⟩) S0 ?_
          · (simp [go_sem, hiI, hi0])
          refine HeadAt.take (i := 10) (.pointer (some ⟨bp, op + i * 2, none⟩)) rfl (by kernel_rfl) (.inl ⟨rfl, fun _ _ => by simp [go_sem]⟩) S0 ?_
          refine HeadAt.take (i := 11) (.int .i64 u) rfl (by kernel_rfl) (.inl ⟨rfl, fun w' z => ?_⟩) S0 ?_
          · (simp [go_sem, z.2.2])
          simp only [Act.put, List.getElem_toArray, List.getElem_cons_succ, List.getElem_cons_zero, List.setIfInBounds_toArray, List.set_cons_succ, List.set_cons_zero]
          refine HeadAt.take (i := 12) (.int .i64 z) rfl (by kernel_rfl) (.inl ⟨rfl, fun w' z => ?_⟩) S0 ?_
          · (simp [go_sem, ew3])
          refine HeadAt.done (by kernel_rfl) ?_
          (try simp only [Act.put, List.drop_succ_cons, List.drop_zero, List.getElem_toArray, List.getElem_cons_succ, List.getElem_cons_zero])
          clear S0 ew1 ew2 ew3
          have fr := own2d.frozenAt (i * 2)
          have kc : Y0.cell? ⟨g2, i * 2, none⟩ = some (.int .i64 u) := by
            have h := World.ownsRow.cellAt own2d (i * 2) (by omega)
            rw [h, HOI.out.2.1]
            exact pcells_get _ _ _ HOI.out.2.2
          obtain ⟨own4s, gs⟩ := own2d.stored (i * 2) (.int .i64 z)
          have HF := hid (show TtO w.heap.size B0 b5 n m ar (some ⟨bp, op, none⟩) a1 (some ⟨g2, 0, none⟩) cr cp c1' c2' p0 way step ((la : Int) - p0) (-way) w (mirR rs) ((ps.map (mirP n)).take (i + 1) ++ ps.drop (i + 1)) _ from
            ⟨x0d.gb gs (fun k hk => by cases hk; omega), x5d.gb gs (fun k hk => by cases hk; omega),
              own_keep own1d gs (fun k hk e => HD.out k hk (by injection e with e; rw [← e]; rfl)),
              by rw [take_snocI HOI.out.1, List.append_assoc]; rw [HOI.out.2.1, pcells_put _ _ _ _ HOI.out.2.2] at own4s; exact own4s,
              hbb.grown gs (by have := hbb.size; omega) (fun k hk => by cases hk; omega)⟩)
          clear own4s gs x0d x5d own1d own2d hbb
          go_wp2_with fail
          refine NoPanic.normal ?_
          go_wp2
          go_roundw
          case rel => exact ⟨i + 1, by omega, by go_num, HF.out⟩
          case measure => simp [intOf]; omega
        · have hnr := HN.out; have hmp := HM.out
          obtain ⟨hv, hvt, hT, hTm, hvm, hVT, hup⟩ := HALL.out
          have e2 : (ps.map (mirP n)).take i ++ ps.drop i = ps.map (mirP n) := by
            rw [List.take_of_length_le (by rw [List.length_map]; omega), List.drop_eq_nil_iff.2 (by omega), List.append_nil]
          rw [e2] at own2
          clear e2
          have hvM := mir_vt hVT
          rw [← hnr, hlaI] at hTm hvm
          have q1 := own_prsA9 own1 (by rw [mirR_len]; exact hnr.symm) (by omega) (fun x hx => by have h1 := hvM.rc x (by rw [hTm.T1]; exact hx); omega)
          have q2 := own_prsA9 own2 (by rw [List.length_map]; exact hmp.symm) (by omega) (fun x hx => by have h1 := hvM.pr x (by rw [hTm.T2]; exact hx); rw [hTm.T1, mirR_len] at h1; omega)
          have hc1 := cn_run hVT (Int.le_refl maxI)
          have htm := plays_time hVT
          have hPl := fun V h1 h2 => Plays_ok ar ap cr cp rs ps p0 way step V h1 h2 hvt T hT (runM T maxI) rfl
          have hPm := fun V h1 h2 => Plays_ok a1 a2 c1' c2' (mirR rs) (ps.map (mirP n)) ((la : Int) - p0) (-way) step V h1 h2 hvm (mirT T) hTm (runM (mirT T) maxI) rfl
          have hSl := fun V h1 h2 => Steps_ok ar ap cr cp rs ps p0 way step V h1 h2 hvt T hT (runM T maxI) rfl
          have hSm := fun V h1 h2 => Steps_ok a1 a2 c1' c2' (mirR rs) (ps.map (mirP n)) ((la : Int) - p0) (-way) step V h1 h2 hvm (mirT T) hTm (runM (mirT T) maxI) rfl
          rw [mir_run hVT (Int.le_refl maxI), hT.T1, ← hnr] at hPm hSm
          have hDl := fun V h1 h2 => Stand_ok ar ap cr cp rs ps p0 way step time V h1 h2 hvt hit T hT (runM T (time + 1)) rfl
          have hDm := fun V h1 h2 => Stand_ok a1 a2 c1' c2' (mirR rs) (ps.map (mirP n)) ((la : Int) - p0) (-way) step time V h1 h2 hvm hit (mirT T) hTm (runM (mirT T) (time + 1)) rfl
          rw [mir_run hVT (b := time + 1) (by unfold maxI; omega), hT.T1, ← hnr] at hDm
          have hrg := (rng_run hVT (b := time + 1) (by unfold maxI; omega)).inv
          have hpos := hrg.pos
          rw [hT.T1, ← hnr] at hpos
          have hsd := hrg.sd
          rw [hT.T1, ← hnr] at hsd
          unfold standV mirC at hDm
          unfold standV at hDl
          dsimp only at hDm
          rw [hup] at hDl hDm
          obtain ⟨p, hp⟩ : ∃ p, p = (runM T (time + 1)).pos := ⟨_, rfl⟩
          obtain ⟨z2, hz2⟩ : ∃ z, z = (runM T (time + 1)).side := ⟨_, rfl⟩
          rw [← hp] at hDl hDm hpos
          rw [← hz2] at hDl hDm hsd
          obtain ⟨p', hp'⟩ : ∃ p', p' = n - 1 - p := ⟨_, rfl⟩
          obtain ⟨z3, hz3⟩ : ∃ z3 : Int, z3 = (if z2 = -1 then -1 else 2 * (n : Int) - 1 - z2) := ⟨_, rfl⟩
          rw [← hp', ← hz3] at hDm
          obtain ⟨L, hL⟩ : ∃ L, L = (runM T maxI).plays := ⟨_, rfl⟩
          obtain ⟨st, hst⟩ : ∃ st, st = (runM T maxI).steps := ⟨_, rfl⟩
          unfold PlaysP at hPl hPm
          unfold StepsP at hSl hSm
          unfold mirC at hPm hSm
          dsimp only at hPm hSm
          have hcs := hc1.s; have hcn := hc1.n; have hcd := hc1.d
          rw [← hL] at hPl hPm hcs hcn hcd htm
          rw [← hst] at hSl hSm
          rw [hT.T2, ← hmp] at hcn
          have hlen : L.length ≤ m := by omega
          have hsecs : ∀ k, k < 2 * rs.length → 0 ≤ secs T k ∧ secs T k ≤ 999 := fun k hk => by have := secs_le hVT (k := k) (by rw [hT.T1]; exact hk); omega
          have hsan := fun al cl V h1 h2 h3 => sane_ok al cl L ar ap cr cp rs ps p0 way step V h1 h2 h3 T hT.T1 (by omega) (by omega) (by omega) (fun q hq => by have h1 := hcd q hq; have h2 := htm q hq; rw [hT.T1] at h1; omega) _ hcs hsecs
          obtain ⟨nl, hnl⟩ : ∃ nl, nl = L.length := ⟨_, rfl⟩
          simp only [List.length_map, mirR_len] at hPm hSm hDm
          rw [← hnr, ← hmp] at hPm hSm hDm hPl hSl hDl hsan
          rw [← hnl] at hPm hPl hsan hlen
          have hDl' : ∀ V, Prs V ar rs → Prs V ap ps → Calls Try.prog 30 #[.agg #[.slice ar n cr, .int .i64 p0, .int .i64 way, .int .i64 step, .slice ap m cp], .int .i64 time] V fun e w' => e = .returned (.tuple #[.agg #[.int .i64 (p : Nat), .int .i64 (-1), .int .i64 z2], .int .i64 0]) ∧ Below V.heap.size V w' := hDl
          have hDm' : ∀ V, Prs V a1 (mirR rs) → Prs V a2 (ps.map (mirP n)) → Calls Try.prog 30 #[.agg #[.slice a1 n c1', .int .i64 ((la : Int) - p0), .int .i64 (-way), .int .i64 step, .slice a2 m c2'], .int .i64 time] V fun e w' => e = .returned (.tuple #[.agg #[.int .i64 (p' : Nat), .int .i64 (1), .int .i64 z3], .int .i64 0]) ∧ Below V.heap.size V w' := hDm
          have hnlI : (nl : Int) ≤ 12 := by omega
          have hiI : (m : Int) ≤ (i : Int) := by omega
          have hpla : (p : Int) ≤ (la : Int) := by omega
          have hp0 : (0 : Int) ≤ (p : Int) := by omega
          have hpp : (la : Int) - (p : Int) = (p' : Int) := by omega
          have hz1 : -1 ≤ z2 := by omega
          have hzl : z2 ≤ 2 * (la : Int) + 1 := by omega
          have HLD := hid (show ∀ q ∈ L, 0 ≤ q.1 ∧ q.1 < 2 * (n : Int) from fun q hq => by have h1 := hcd q hq; rw [hT.T1] at h1; omega)
          have HZ3 := hid hz3; have HNL := hid hnl; have HPP := hid hpp
          have c0 := x0.cell 0 rfl; have c1 := x0.cell 1 rfl; have c2 := x0.cell 2 rfl; have c3 := x0.cell 3 rfl; have c4 := x0.cell 4 rfl
          have d0 := x5.cell 0 rfl; have d1 := x5.cell 1 rfl; have d2 := x5.cell 2 rfl; have d3 := x5.cell 3 rfl; have d4 := x5.cell 4 rfl
          clear hDl hDm hv hvt hT hTm hvm hVT hup hvM hc1 hcs hcn hcd htm hsecs hrg hpos hsd hz3 hnl hp hz2 hp' hst hL own1 own2 hnr hmp hpp hi hlt2
          go_wp2_with fail
          refine (hPl _ (hR.below hb (Nat.le_refl _)) (hP.below hb (Nat.le_refl _))).mono ?_
          rintro e V1 ⟨hb1, al, cl, rfl, r1⟩
          clear hPl
          (try clear c0 c1 c2 c3 c4); replace x0 := x0.below hb1; have c0 := x0.cell 0 rfl; have c1 := x0.cell 1 rfl; have c2 := x0.cell 2 rfl; have c3 := x0.cell 3 rfl; have c4 := x0.cell 4 rfl; (try clear d0 d1 d2 d3 d4); replace x5 := x5.below hb1; have d0 := x5.cell 0 rfl; have d1 := x5.cell 1 rfl; have d2 := x5.cell 2 rfl; have d3 := x5.cell 3 rfl; have d4 := x5.cell 4 rfl; replace q1 := q1.below hb1 (Nat.le_refl _); replace q2 := q2.below hb1 (Nat.le_refl _); replace hb := hb.trans (hb1.mono hb.size); clear hb1
          go_wp2_with fail
          refine (hPm _ q1 q2).mono ?_
          rintro e V2 ⟨hb1, am, cm, rfl, r2⟩
          clear hPm
          (try clear c0 c1 c2 c3 c4); replace x0 := x0.below hb1; have c0 := x0.cell 0 rfl; have c1 := x0.cell 1 rfl; have c2 := x0.cell 2 rfl; have c3 := x0.cell 3 rfl; have c4 := x0.cell 4 rfl; (try clear d0 d1 d2 d3 d4); replace x5 := x5.below hb1; have d0 := x5.cell 0 rfl; have d1 := x5.cell 1 rfl; have d2 := x5.cell 2 rfl; have d3 := x5.cell 3 rfl; have d4 := x5.cell 4 rfl; replace q1 := q1.below hb1 (Nat.le_refl _); replace q2 := q2.below hb1 (Nat.le_refl _); replace r1 := r1.below hb1 (Nat.le_refl _); replace hb := hb.trans (hb1.mono hb.size); clear hb1
          go_wp2_with fail
          refine (hSl _ (hR.below hb (Nat.le_refl _)) (hP.below hb (Nat.le_refl _))).mono ?_
          rintro e V3 ⟨hb1, rfl⟩
          clear hSl
          (try clear c0 c1 c2 c3 c4); replace x0 := x0.below hb1; have c0 := x0.cell 0 rfl; have c1 := x0.cell 1 rfl; have c2 := x0.cell 2 rfl; have c3 := x0.cell 3 rfl; have c4 := x0.cell 4 rfl; (try clear d0 d1 d2 d3 d4); replace x5 := x5.below hb1; have d0 := x5.cell 0 rfl; have d1 := x5.cell 1 rfl; have d2 := x5.cell 2 rfl; have d3 := x5.cell 3 rfl; have d4 := x5.cell 4 rfl; replace q1 := q1.below hb1 (Nat.le_refl _); replace q2 := q2.below hb1 (Nat.le_refl _); replace r1 := r1.below hb1 (Nat.le_refl _); replace r2 := r2.below hb1 (Nat.le_refl _); replace hb := hb.trans (hb1.mono hb.size); clear hb1
          go_wp2_with fail
          refine (hSm _ q1 q2).mono ?_
          rintro e V4 ⟨hb1, rfl⟩
          clear hSm
          (try clear c0 c1 c2 c3 c4); replace x0 := x0.below hb1; have c0 := x0.cell 0 rfl; have c1 := x0.cell 1 rfl; have c2 := x0.cell 2 rfl; have c3 := x0.cell 3 rfl; have c4 := x0.cell 4 rfl; (try clear d0 d1 d2 d3 d4); replace x5 := x5.below hb1; have d0 := x5.cell 0 rfl; have d1 := x5.cell 1 rfl; have d2 := x5.cell 2 rfl; have d3 := x5.cell 3 rfl; have d4 := x5.cell 4 rfl; replace q1 := q1.below hb1 (Nat.le_refl _); replace q2 := q2.below hb1 (Nat.le_refl _); replace r1 := r1.below hb1 (Nat.le_refl _); replace r2 := r2.below hb1 (Nat.le_refl _); replace hb := hb.trans (hb1.mono hb.size); clear hb1
          go_wp2_with fail
          refine (hsan al cl _ (hR.below hb (Nat.le_refl _)) (hP.below hb (Nat.le_refl _)) r1).mono ?_
          rintro e V5 ⟨rfl, hb1⟩
          clear hsan
          (try clear c0 c1 c2 c3 c4); replace x0 := x0.below hb1; have c0 := x0.cell 0 rfl; have c1 := x0.cell 1 rfl; have c2 := x0.cell 2 rfl; have c3 := x0.cell 3 rfl; have c4 := x0.cell 4 rfl; (try clear d0 d1 d2 d3 d4); replace x5 := x5.below hb1; have d0 := x5.cell 0 rfl; have d1 := x5.cell 1 rfl; have d2 := x5.cell 2 rfl; have d3 := x5.cell 3 rfl; have d4 := x5.cell 4 rfl; replace q1 := q1.below hb1 (Nat.le_refl _); replace q2 := q2.below hb1 (Nat.le_refl _); replace r1 := r1.below hb1 (Nat.le_refl _); replace r2 := r2.below hb1 (Nat.le_refl _); replace hb := hb.trans (hb1.mono hb.size); clear hb1
          go_wp2
          clear c0 c1 c2 c3 c4 d0 d1 d2 d3 d4
          go_loopw [17] (fun v17 wr' => ∃ k : Nat, k ≤ nl ∧ v17 = .int .i64 (k : Int) ∧ Below V5.heap.size V5 wr') (fun v17 _ => nl - (intOf v17).toNat)
          case atStart => exact ⟨0, Nat.zero_le _, rfl, Below.refl _ _⟩
          case round =>
            obtain ⟨k, hk, rfl, hb1⟩ := hrel
            by_cases hkl : k < nl
            · have hkI : (k : Int) < (nl : Int) := by omega
              have hk0 : (0 : Int) ≤ (k : Int) := by omega
              obtain ⟨b1, o1, u1, t1, rfl, _, g0, g1, _, _, hx1, _⟩ := (r1.below hb1 (Nat.le_refl _)).at (show k < L.length by rw [← HNL.out]; exact hkl)
              obtain ⟨b2, o2, u2, t2, rfl, _, d0, d1, _, _, hx2, _⟩ := (r2.below hb1 (Nat.le_refl _)).at (show k < (L.map (mirP n)).length by rw [List.length_map, ← HNL.out]; exact hkl)
              have he := hx2.out
              rw [List.getElem?_map, hx1.out] at he
              simp only [Option.map_some, mirP, Option.some.injEq, Prod.mk.injEq] at he
              obtain ⟨he1, rfl⟩ := he
              have hu1 := HLD.out (u1, t1) (List.mem_of_getElem? hx1.out)
              dsimp only at hu1
              have ew1 : IntKind.i64.wrap (2 * (la : Int)) = 2 * (la : Int) := IntWalk.i64_in _ (by omega)
              have ew2 : IntKind.i64.wrap (2 * (la : Int) + 1) = 2 * (la : Int) + 1 := IntWalk.i64_in _ (by omega)
              have ew3 : IntKind.i64.wrap (2 * (la : Int) + 1 - u1) = u2 := by rw [← he1, show 2 * (n : Int) - 1 - u1 = 2 * (la : Int) + 1 - u1 by omega]; exact IntWalk.i64_in _ (by omega)
              clear hx1 hx2 he1 hu1
              go_upto_region 23 with fail
              go_quiet ((fail))
              generalize hV2 : wr.drewN nq = V2'
              have hbd : Below wr.heap.size wr V2' := by rw [← hV2]; exact below_drewN (Below.refl _ _) _
              have hb2 := hb1.trans (hbd.mono hb1.size)
              clear hV2 g0 g1 d0 d1 hbd ew1 ew2 ew3
              go_wp2
              go_roundw
              case rel => exact ⟨k + 1, by omega, by go_num, hb2⟩
              case measure => simp [intOf]; omega
            · have hkI : (nl : Int) ≤ (k : Int) := by omega
              replace q1 := q1.below hb1 (Nat.le_refl _); replace q2 := q2.below hb1 (Nat.le_refl _)
              (try clear c0 c1 c2 c3 c4); replace x0 := x0.below hb1; have c0 := x0.cell 0 rfl; have c1 := x0.cell 1 rfl; have c2 := x0.cell 2 rfl; have c3 := x0.cell 3 rfl; have c4 := x0.cell 4 rfl; (try clear d0 d1 d2 d3 d4); replace x5 := x5.below hb1; have d0 := x5.cell 0 rfl; have d1 := x5.cell 1 rfl; have d2 := x5.cell 2 rfl; have d3 := x5.cell 3 rfl; have d4 := x5.cell 4 rfl; replace hb := hb.trans (hb1.mono hb.size); clear hb1
              clear r1 r2 hk hkl
              go_wp2_with fail
              refine (hDl' _ (hR.below hb (Nat.le_refl _)) (hP.below hb (Nat.le_refl _))).mono ?_
              rintro e V6 ⟨rfl, hb1⟩
              clear hDl'
              obtain ⟨V7, hV7, hbx, hsx, x18⟩ := boxes1 V6 #[.int .i64 (p : Int), .int .i64 (-1), .int .i64 z2] 50
              replace hb1 := hb1.trans (hbx.mono hb1.size)
              (try clear c0 c1 c2 c3 c4); replace x0 := x0.below hb1; have c0 := x0.cell 0 rfl; have c1 := x0.cell 1 rfl; have c2 := x0.cell 2 rfl; have c3 := x0.cell 3 rfl; have c4 := x0.cell 4 rfl; (try clear d0 d1 d2 d3 d4); replace x5 := x5.below hb1; have d0 := x5.cell 0 rfl; have d1 := x5.cell 1 rfl; have d2 := x5.cell 2 rfl; have d3 := x5.cell 3 rfl; have d4 := x5.cell 4 rfl; replace q1 := q1.below hb1 (Nat.le_refl _); replace q2 := q2.below hb1 (Nat.le_refl _); replace hb := hb.trans (hb1.mono hb.size); clear hb1
              clear hsx hbx
              go_wp2_with fail
              refine (hDm' _ q1 q2).mono ?_
              rintro e V8 ⟨rfl, hb1⟩
              clear hDm' hV7
              obtain ⟨V9, hV9, hbx, hsx, x19⟩ := boxes1 V8 #[.int .i64 (p' : Int), .int .i64 (1), .int .i64 z3] 50
              replace hb1 := hb1.trans (hbx.mono hb1.size)
              replace x18 := x18.below hb1; replace hb := hb.trans (hb1.mono hb.size); clear hb1
              clear hsx hbx x0 x5 q1 q2 c0 c1 c2 c3 c4 d0 d1 d2 d3 d4
              have c0 := x18.cell 0 rfl; have c1 := x18.cell 1 rfl; have c2 := x18.cell 2 rfl
              have d0 := x19.cell 0 rfl; have d1 := x19.cell 1 rfl; have d2 := x19.cell 2 rfl
              have ew1 : IntKind.i64.wrap (2 * (la : Int)) = 2 * (la : Int) := IntWalk.i64_in _ (by omega)
              have ew2 : IntKind.i64.wrap (2 * (la : Int) + 1) = 2 * (la : Int) + 1 := IntWalk.i64_in _ (by omega)
              have ew4 : IntKind.i64.wrap ((la : Int) - (p : Int)) = (p' : Int) := by rw [HPP.out]; exact IntWalk.i64_in _ (by have := HPP.out; omega)
              obtain ⟨V10, hV10, hbx, hsx, x20⟩ := boxes1 V9 #[.int .i64 (p' : Int), .int .i64 (1), .int .i64 (-1)] 50
              obtain ⟨g20, hg20⟩ : ∃ g, g = V9.heap.size := ⟨_, rfl⟩
              have l18 := x18.lt; have l19 := x19.lt
              have y19 := x19.below hbx
              have z18 := x18.below hbx
              have s0 := z18.cell 0 rfl; have s1 := z18.cell 1 rfl; have s2 := z18.cell 2 rfl
              have hb10 := hb.trans (hbx.mono hb.size)
              clear hsx hbx
              by_cases hneg : z2 < 0
              · have hz2 : z2 = -1 := by omega
                have hz3 : z3 = -1 := by rw [HZ3.out, if_pos hz2]
                subst hz2
                subst hz3
                have f0 := x20.cell 0 rfl; have f1 := x20.cell 1 rfl; have f2 := x20.cell 2 rfl
                have k0 := y19.cell 0 rfl; have k1 := y19.cell 1 rfl; have k2 := y19.cell 2 rfl
                clear x18 x19 HZ3
                go_wp2_with fail
                clear hV10
                replace hb := hb10
                clear c0 c1 c2 d0 d1 d2 f0 f1 f2 k0 k1 k2 s0 s1 s2
                refine (works_any _).mono ?_
                rintro e V3 ⟨rfl, hb1⟩
                replace hb := hb.trans (hb1.mono hb.size)
                clear hb1
                go_wp2
                go_ret
                exact ⟨rfl, hb⟩
              · have hz3 : z3 = 2 * (la : Int) + 1 - z2 := by rw [HZ3.out, if_neg (by omega)]; omega
                have ew5 : IntKind.i64.wrap (2 * (la : Int) + 1 - z2) = z3 := by rw [hz3]; exact IntWalk.i64_in _ (by omega)
                have hz20 : 0 ≤ z2 := by omega
                clear hneg hz3 HZ3
                have fr := x20.free 2
                have f0 := x20.cell 0 rfl; have f1 := x20.cell 1 rfl; have f2 := x20.cell 2 rfl
                go_upto_region 32 with fail
                have x20s : Bx (V10.setCell ⟨V9.heap.size, 2, none⟩ (.int .i64 z3)) V9.heap.size #[.int .i64 (p' : Int), .int .i64 (1), .int .i64 z3] 50 := x20.set 2 (.int .i64 z3)
                have y19s := y19.other (a := ⟨V9.heap.size, 2, none⟩) (by show V8.heap.size ≠ V9.heap.size; omega) (.int .i64 z3)
                have hbs := hb10.setCell (p := ⟨V9.heap.size, 2, none⟩) hb.size (.int .i64 z3)
                clear f0 f1 f2 s0 s1 s2 fr x20 y19 hb10 z18 c0 c1 c2 d0 d1 d2 ew1 ew2 ew4 ew5
                generalize V10.setCell ⟨V9.heap.size, 2, none⟩ (.int .i64 z3) = V11 at *
                clear hV10 hV9 x18 x19 hb
                replace hb := hbs
                have f0 := x20s.cell 0 rfl; have f1 := x20s.cell 1 rfl; have f2 := x20s.cell 2 rfl
                have k0 := y19s.cell 0 rfl; have k1 := y19s.cell 1 rfl; have k2 := y19s.cell 2 rfl
                go_wp2_with fail
                refine (works_any _).mono ?_
                rintro e V3 ⟨rfl, hb1⟩
                replace hb := hb.trans (hb1.mono hb.size)
                clear hb1 f0 f1 f2 k0 k1 k2
                go_wp2
                go_ret
                exact ⟨rfl, hb⟩


theorem turned_any (ar ap : Option Addr) (cr cp : Nat) (rs ps : List (Int × Int)) (p0 way step : Int) (time : Int) (w : World) (hlr : rs.length ≤ 9223372036854775807) (hlp : ps.length ≤ 9223372036854775807) (hR : rs.length ≤ 1000 → Prs w ar rs) (hP : ps.length ≤ 1000 → Prs w ap ps) :
    Calls Try.prog 7 #[.agg #[.slice ar rs.length cr, .int .i64 p0, .int .i64 way, .int .i64 step, .slice ap ps.length cp], .int .i64 time] w (WorksP w) := by
  cases hv : rdB rs ps p0 way step
  · exact tt_arg0 ar ap cr cp rs ps p0 way step time w hlr hlp hR hP hv
  · have hl := rdB_6b9 (rdB_len hv)
    have hR' := hR (by omega)
    have hP' := hP (by omega)
    cases hit : inR 0 time 9999
    · exact tt_arg1 ar ap cr cp rs ps p0 way step time w hR' hP' (by omega) hv hit
    · obtain ⟨T, hT, _⟩ := tr_of (rdB_len hv)
      cases hup : (runM T (time + 1)).up
      · exact tt_false ar ap cr cp rs ps p0 way step time w hR' hP' hv hit T hT hup
      · exact tt_true ar ap cr cp rs ps p0 way step time w hR' hP' hv hit T hT hup
end Go.Proofs.Ytknaljghpfeikaa
