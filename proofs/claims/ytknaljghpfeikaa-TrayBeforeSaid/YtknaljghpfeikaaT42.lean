import Derived.Test.YtknaljghpfeikaaT40
import Derived.Test.YtknaljghpfeikaaM3
namespace Go.Proofs.Ytknaljghpfeikaa
open Go.RowKit

theorem pcells_put2 (A : List (Int × Int)) (x : Int × Int) (B : List (Int × Int)) (u t : Int) {k : Nat} (hk : A.length = k) : ((pcells (A ++ x :: B)).set (k * 2) (.int .i64 u)).set (k * 2 + 1) (.int .i64 t) = pcells (A ++ (u, t) :: B) := by
  rw [pcells_put A x B u hk, pcells_app, pcells_app, List.set_append]
  have e := pcells_len A
  rw [hk] at e
  rw [if_neg (by omega), e, show k * 2 + 1 - k * 2 = 1 by omega, pcells_cons, pcells_cons]
  rfl
theorem rdB_6 {rs ps : List (Int × Int)} {p0 way step : Int} (h : trB rs ps p0 way step = true) : rs.length ≤ 6 ∧ ps.length ≤ 12 ∧ 1 ≤ rs.length := by
  unfold trB at h
  simp only [Bool.and_eq_true, decide_eq_true_eq, inR_iff] at h
  omega
theorem own_prs {w : World} {B n c : Nat} {e : TypeId} {a : Option Addr} {xs : List (Int × Int)} (h : w.ownsRow B e 2 (.slice a n c) n (pcells xs)) (hn : xs.length = n) (hl : n ≤ 1000000) (hb : ∀ x ∈ xs, -9223372036854775808 ≤ x.1 ∧ x.1 ≤ 9223372036854775807 ∧ -9223372036854775808 ≤ x.2 ∧ x.2 ≤ 9223372036854775807) : Prs w a xs := by
  subst hn
  obtain ⟨a', c', e1, hp⟩ := Prs.of_own h (by omega) hb
  injection e1 with e2
  rw [e2]
  exact hp
theorem all_same {α : Type} {l l' : List α} (h : ∀ x, x ∈ l' ↔ x ∈ l) (f : α → Bool) : l'.all f = l.all f := by
  rw [Bool.eq_iff_iff, List.all_eq_true, List.all_eq_true]
  exact ⟨fun h1 x hx => h1 x ((h x).2 hx), fun h1 x hx => h1 x ((h x).1 hx)⟩
theorem trB_same {rs ps ps' : List (Int × Int)} {p0 way step : Int} (h : ∀ x, x ∈ ps' ↔ x ∈ ps) (hl : ps'.length = ps.length) : trB rs ps' p0 way step = trB rs ps p0 way step := by
  unfold trB; rw [all_same h, hl]
theorem vt_same {T : Tr} {ps' : List (Int × Int)} (hv : VT T) (h : ∀ x, x ∈ ps' ↔ x ∈ T.prs) (hl : ps'.length = T.prs.length) : VT { T with prs := ps' } :=
  ⟨hv.n1, hv.n6, hv.rc, hv.at0, hv.st, by show ps'.length ≤ 13; rw [hl]; exact hv.p13, fun p hp => hv.pr p ((h p).1 hp)⟩
set_option maxRecDepth 100000 in
set_option maxHeartbeats 1000000 in
theorem or_arg0 (ar ap : Option Addr) (cr cp : Nat) (rs ps : List (Int × Int)) (p0 way step : Int) (by' : Int) (back : Bool) (w : World) (hlr : rs.length ≤ 9223372036854775807) (hlp : ps.length ≤ 9223372036854775807) (hR : rs.length ≤ 1000 → Prs w ar rs) (hP : ps.length ≤ 1000 → Prs w ap ps) (hv : rdB rs ps p0 way step = false) :
    Calls Try.prog 4 #[.agg #[.slice ar rs.length cr, .int .i64 p0, .int .i64 way, .int .i64 step, .slice ap ps.length cp], .int .i64 by', .bool back] w (WorksP w) := by
  obtain ⟨W, hW, hb, hs, x0⟩ := boxes1 w #[.slice ar rs.length cr, .int .i64 p0, .int .i64 way, .int .i64 step, .slice ap ps.length cp] 25
  clear hs
  have hrd := ready_any ar ap cr cp rs ps p0 way step W hlr hlp (fun h => (hR h).below hb (Nat.le_refl _)) (fun h => (hP h).below hb (Nat.le_refl _))
  rw [hv] at hrd
  have c0 := x0.cell 0 rfl; have c1 := x0.cell 1 rfl; have c2 := x0.cell 2 rfl; have c3 := x0.cell 3 rfl; have c4 := x0.cell 4 rfl
  clear hR hP hlr hlp hv
  go_enter Try.func4, Try.ntmps4
  go_wp2_with fail
  refine hrd.mono ?_
  rintro e W1 ⟨rfl, hb1⟩
  clear hW hrd
  (try clear c0 c1 c2 c3 c4); replace x0 := x0.below hb1; have c0 := x0.cell 0 rfl; have c1 := x0.cell 1 rfl; have c2 := x0.cell 2 rfl; have c3 := x0.cell 3 rfl; have c4 := x0.cell 4 rfl; replace hb := hb.trans (hb1.mono hb.size); clear hb1
  go_wp2_with fail
  refine (works_any _).mono ?_
  rintro e V3 ⟨rfl, hb1⟩
  replace hb := hb.trans (hb1.mono hb.size)
  clear hb1
  clear x0 c0 c1 c2 c3 c4
  go_wp2
  go_ret
  exact ⟨rfl, hb⟩
set_option maxRecDepth 100000 in
set_option maxHeartbeats 1000000 in
theorem or_arg1 (ar ap : Option Addr) (cr cp : Nat) (rs ps : List (Int × Int)) (p0 way step : Int) (by' : Int) (back : Bool) (w : World) (hR : Prs w ar rs) (hP : Prs w ap ps) (hl : ps.length ≤ 40 ∧ rs.length ≤ 40) (hv : rdB rs ps p0 way step = true) (hbad : by' < 0 ∨ 1000 < by' ∨ ps.length = 0) :
    Calls Try.prog 4 #[.agg #[.slice ar rs.length cr, .int .i64 p0, .int .i64 way, .int .i64 step, .slice ap ps.length cp], .int .i64 by', .bool back] w (WorksP w) := by
  obtain ⟨W, hW, hb, hs, x0⟩ := boxes1 w #[.slice ar rs.length cr, .int .i64 p0, .int .i64 way, .int .i64 step, .slice ap ps.length cp] 25
  clear hs
  have hrd := ready_any ar ap cr cp rs ps p0 way step W (by omega) (by omega) (fun h => hR.below hb (Nat.le_refl _)) (fun h => hP.below hb (Nat.le_refl _))
  rw [hv] at hrd
  have c0 := x0.cell 0 rfl; have c1 := x0.cell 1 rfl; have c2 := x0.cell 2 rfl; have c3 := x0.cell 3 rfl; have c4 := x0.cell 4 rfl
  clear hR hP hv
  by_cases h1 : by' < 0
  · clear hbad
    go_enter Try.func4, Try.ntmps4
    go_wp2_with fail
    refine hrd.mono ?_
    rintro e W1 ⟨rfl, hb1⟩
    clear hW hrd
    (try clear c0 c1 c2 c3 c4); replace x0 := x0.below hb1; have c0 := x0.cell 0 rfl; have c1 := x0.cell 1 rfl; have c2 := x0.cell 2 rfl; have c3 := x0.cell 3 rfl; have c4 := x0.cell 4 rfl; replace hb := hb.trans (hb1.mono hb.size); clear hb1
    go_wp2_with fail
    refine (works_any _).mono ?_
    rintro e V3 ⟨rfl, hb1⟩
    replace hb := hb.trans (hb1.mono hb.size)
    clear hb1
    clear x0 c0 c1 c2 c3 c4
    go_wp2
    go_ret
    exact ⟨rfl, hb⟩
  by_cases h2 : 1000 < by'
  · clear hbad
    go_enter Try.func4, Try.ntmps4
    go_wp2_with fail
    refine hrd.mono ?_
    rintro e W1 ⟨rfl, hb1⟩
    clear hW hrd
    (try clear c0 c1 c2 c3 c4); replace x0 := x0.below hb1; have c0 := x0.cell 0 rfl; have c1 := x0.cell 1 rfl; have c2 := x0.cell 2 rfl; have c3 := x0.cell 3 rfl; have c4 := x0.cell 4 rfl; replace hb := hb.trans (hb1.mono hb.size); clear hb1
    go_wp2_with fail
    refine (works_any _).mono ?_
    rintro e V3 ⟨rfl, hb1⟩
    replace hb := hb.trans (hb1.mono hb.size)
    clear hb1
    clear x0 c0 c1 c2 c3 c4
    go_wp2
    go_ret
    exact ⟨rfl, hb⟩
  · have h3 : ps.length = 0 := by omega
    have h3B : ((ps.length : Int) == 0) = true := by rw [h3]; rfl
    have h1' : 0 ≤ by' := by omega
    have h2' : by' ≤ 1000 := by omega
    clear hbad h1 h2 h3
    go_enter Try.func4, Try.ntmps4
    go_wp2_with fail
    refine hrd.mono ?_
    rintro e W1 ⟨rfl, hb1⟩
    clear hW hrd
    (try clear c0 c1 c2 c3 c4); replace x0 := x0.below hb1; have c0 := x0.cell 0 rfl; have c1 := x0.cell 1 rfl; have c2 := x0.cell 2 rfl; have c3 := x0.cell 3 rfl; have c4 := x0.cell 4 rfl; replace hb := hb.trans (hb1.mono hb.size); clear hb1
    go_wp2_with fail
    refine (works_any _).mono ?_
    rintro e V3 ⟨rfl, hb1⟩
    replace hb := hb.trans (hb1.mono hb.size)
    clear hb1
    clear x0 c0 c1 c2 c3 c4
    go_wp2
    go_ret
    exact ⟨rfl, hb⟩
/-- The first loop: the other tray's presses. -/
structure OrL (b B0 b8 : Nat) (rs ps : List (Int × Int)) (bn : Nat) (back : Bool) (ar ap a1 a2 : Option Addr) (cr cp c1 c2 n m : Nat) (p0 way step : Int) (w : World) (i : Nat) (wr : World) : Prop where
  x0 : Bx wr b #[.slice ar n cr, .int .i64 p0, .int .i64 way, .int .i64 step, .slice ap m cp] 25
  x8 : Bx wr b8 #[.slice a1 n c1, .int .i64 p0, .int .i64 way, .int .i64 step, .slice a2 m c2] 25
  own1 : wr.ownsRow B0 34 2 (.slice a1 n c1) n (pcells rs)
  own2 : wr.ownsRow B0 40 2 (.slice a2 m c2) m (pcells ((ordrP ps bn back).take i ++ ps.drop i))
  hb : Below w.heap.size w wr

set_option maxRecDepth 100000 in
set_option maxHeartbeats 6000000 in
theorem or_true (ar ap : Option Addr) (cr cp : Nat) (rs ps : List (Int × Int)) (p0 way step : Int) (bn : Nat) (w : World) (hR : Prs w ar rs) (hP : Prs w ap ps) (hv : rdB rs ps p0 way step = true) (hbn : bn ≤ 1000) (hm1 : ps.length ≠ 0) (T : Tr) (hT : IsTr T rs ps p0 way step) :
    Calls Try.prog 4 #[.agg #[.slice ar rs.length cr, .int .i64 p0, .int .i64 way, .int .i64 step, .slice ap ps.length cp], .int .i64 (bn : Int), .bool true] w (WorksP w) := by
  obtain ⟨hr6, hp12, hr1⟩ := rdB_6 (rdB_len hv)
  have hvt := rdB_len hv
  obtain ⟨n, hn⟩ : ∃ n, n = rs.length := ⟨_, rfl⟩
  obtain ⟨m, hm⟩ : ∃ m, m = ps.length := ⟨_, rfl⟩
  have HN := hid hn; have HM := hid hm
  rw [← hn, ← hm]
  rw [← hn] at hr6 hr1; rw [← hm] at hp12 hm1
  obtain ⟨W, hW, hb, hs, x0⟩ := boxes1 w #[.slice ar n cr, .int .i64 p0, .int .i64 way, .int .i64 step, .slice ap m cp] 25
  clear hs
  have hrd := ready_any ar ap cr cp rs ps p0 way step W (by omega) (by omega) (fun h => hR.below hb (Nat.le_refl _)) (fun h => hP.below hb (Nat.le_refl _))
  rw [hv, ← hn, ← hm] at hrd
  have HV := hid hvt
  have c0 := x0.cell 0 rfl; have c1 := x0.cell 1 rfl; have c2 := x0.cell 2 rfl; have c3 := x0.cell 3 rfl; have c4 := x0.cell 4 rfl
  clear hv hvt hn hm
  have hmI : (m : Int) ≤ 12 := by omega
  have hm0 : (0 : Int) < (m : Int) := by omega
  have hmz : ((m : Int) == 0) = false := by simp; omega
  have hbI : (bn : Int) ≤ 1000 := by omega
  have hb0 : (0 : Int) ≤ (bn : Int) := by omega
  have hd1 : decide ((bn : Int) < 0) = false := by simp
  have hd2 : decide ((1000 : Int) < (bn : Int)) = false := by simp; omega
  have hcp := fun V h1 h2 => copy_any ar ap cr cp rs ps p0 way step V h1 h2 (by have := HN.out; omega) (by have := HM.out; omega)
  unfold CopyP at hcp
  rw [← HN.out, ← HM.out] at hcp
  go_enter Try.func4, Try.ntmps4
  go_wp2_with fail
  refine hrd.mono ?_
  rintro e W1 ⟨rfl, hb1⟩
  clear hW hrd
  (try clear c0 c1 c2 c3 c4); replace x0 := x0.below hb1; have c0 := x0.cell 0 rfl; have c1 := x0.cell 1 rfl; have c2 := x0.cell 2 rfl; have c3 := x0.cell 3 rfl; have c4 := x0.cell 4 rfl; replace hb := hb.trans (hb1.mono hb.size); clear hb1
  go_wp2_with fail
  refine (hcp _ (hR.below hb (Nat.le_refl _)) (hP.below hb (Nat.le_refl _))).mono ?_
  rintro e W2 ⟨hb1, a1, a2, c1', c2', rfl, own1, own2, hdis⟩
  clear hcp
  have hl1 := own_lt own1; have hl2 := own_lt own2
  have hsW := hb.size
  obtain ⟨B0, hB0⟩ : ∃ B, B = W1.heap.size := ⟨_, rfl⟩
  have hxB : w.heap.size < B0 := by rw [hB0]; exact x0.lt
  rw [← hB0] at own1 own2
  replace x0 := x0.below hb1
  replace hb := hb.trans (hb1.mono hb.size)
  obtain ⟨b8, hb8⟩ : ∃ b, W2.heap.size = b := ⟨_, rfl⟩
  have hbx := below_one (w := W2) (.cells #[.slice a1 n c1', .int .i64 p0, .int .i64 way, .int .i64 step, .slice a2 m c2'] 25)
  have hB8 : B0 ≤ b8 := by rw [hB0, ← hb8]; exact hb1.size
  have HL := hid (show OrL w.heap.size B0 b8 rs ps bn true ar ap a1 a2 cr cp c1' c2' n m p0 way step w 0 (W2.alloc (.cells #[.slice a1 n c1', .int .i64 p0, .int .i64 way, .int .i64 step, .slice a2 m c2'] 25)) from
    ⟨x0.below hbx, Bx.new' hb8 _ _, own_below2 own1 hbx, by simpa using own_below2 own2 hbx, hb.trans (hbx.mono hb.size)⟩)
  rw [hb8] at hl1 hl2
  have HD := hid hdis
  clear x0 c0 c1 c2 c3 c4 own1 own2 hb hbx hb1 hB0 hdis
  go_wp2
  clear hd1 hd2 hmz
  go_loopw [9] (fun v9 wr => ∃ i : Nat, i ≤ m ∧ v9 = .int .i64 (i : Int) ∧ OrL w.heap.size B0 b8 rs ps bn true ar ap a1 a2 cr cp c1' c2' n m p0 way step w i wr) (fun v9 _ => m - (intOf v9).toNat)
  case atStart => exact ⟨0, Nat.zero_le _, rfl, HL.out⟩
  case round =>
    clear HL
    obtain ⟨i, hi, rfl, HR⟩ := hrel
    obtain ⟨x0, x8, own1, own2, hb⟩ := HR
    by_cases hlt : i < m
    · have hiI : (i : Int) < (m : Int) := by omega
      have hi0 : (0 : Int) ≤ (i : Int) := by omega
      have hsx : ((i : Int) + (bn : Int)) % (m : Int) = (((i + bn) % m : Nat) : Int) := by rw [Int.natCast_emod, Int.natCast_add]
      have hxm := Nat.mod_lt (i + bn) (show 0 < m by omega)
      obtain ⟨s, hs⟩ : ∃ s, s = srcO bn true m i := ⟨_, rfl⟩
      have hs' : s = m - 1 - (i + bn) % m := by rw [hs]; rfl
      generalize (i + bn) % m = x at hsx hxm hs'
      have hxI : (x : Int) < (m : Int) := by omega
      have hx0 : (0 : Int) ≤ (x : Int) := by omega
      have hsm : s < m := by omega
      have hse : (m : Int) - 1 - (x : Int) = (s : Int) := by omega
      have hsI : (s : Int) < (m : Int) := by omega
      have hs0 : (0 : Int) ≤ (s : Int) := by omega
      have hmn : ¬ m = 0 := by omega
      have hm1I : (1 : Int) ≤ (m : Int) := by omega
      have HSS := hid hs
      clear hs hs' hxm
      obtain ⟨bp, op, u, t, rfl, _, hp1, hp2, hub, htb, hps, _⟩ := hP.at (show s < ps.length by rw [← HM.out]; exact hsm)
      obtain ⟨pd, hpd⟩ : ∃ q, ps[i]? = some q := ⟨_, List.getElem?_eq_getElem (show i < ps.length by rw [← HM.out]; exact hlt)⟩
      have hod : (ordrP ps bn true)[i]? = some (u, t) := by rw [ordrP_at (by rw [← HM.out]; exact hlt), ← HM.out, ← HSS.out]; exact hps.out
      obtain ⟨g2, cap, e2, hg2⟩ : ∃ g2 cap, Value.slice a2 m c2' = .slice (some ⟨g2, 0, none⟩) m cap ∧ B0 ≤ g2 := by
        rcases own2.2 with ⟨_, h0⟩ | ⟨g2, cap, cur, e, hge, _⟩
        · omega
        · exact ⟨g2, cap, e, hge⟩
      simp only [Value.slice.injEq, true_and] at e2
      obtain ⟨rfl, rfl⟩ := e2
      have hg28 := hl2 g2 rfl
      have hA : ((ordrP ps bn true).take i).length = i := by rw [List.length_take, ordrP_len]; have := HM.out; omega
      have hdr : ps.drop i = pd :: ps.drop (i + 1) := by
        have hil : i < ps.length := by rw [← HM.out]; exact hlt
        rw [List.drop_eq_getElem_cons hil]
        rw [List.getElem?_eq_getElem hil] at hpd
        injection hpd with e
        rw [e]
      have hcell := World.ownsRow.cellAt own2 (i * 2) (by omega)
      have hcell1 := World.ownsRow.cellAt own2 (i * 2 + 1) (by omega)
      have hv0 : (pcells ((ordrP ps bn true).take i ++ ps.drop i))[i * 2]? = some (.int .i64 pd.1) := by rw [hdr]; exact pcells_get _ _ _ hA
      have hv1 : ∃ z, (pcells ((ordrP ps bn true).take i ++ ps.drop i))[i * 2 + 1]? = some z := ⟨_, List.getElem?_eq_getElem (by rw [pcells_len, List.length_append, List.length_drop, hA]; have := HM.out; omega)⟩
      obtain ⟨z1, hv1⟩ := hv1
      rw [hv0] at hcell
      rw [hv1] at hcell1
      have fr0 := own2.frozenAt (i * 2)
      have fr1 := own2.frozenAt (i * 2 + 1)
      have HOD := hid (And.intro hod (And.intro hdr hA))
      clear hod hpd hdr hA hv0 hv1 hps
      go_upto_region 11 with fail
      (try rw [hsx])
      have hbd := (Below.refl wr.heap.size wr).drew
      have x0d := x0.below hbd; have x8d := x8.below hbd
      have own1d := own_below2 own1 hbd; have own2d := own_below2 own2 hbd
      have hbb := hb.trans (hbd.mono hb.size)
      have hcd := Below.keep hbd hcell; have hcd1 := Below.keep hbd hcell1
      have fd0 := own2d.frozenAt (i * 2); have fd1 := own2d.frozenAt (i * 2 + 1)
      clear hbd x0 x8 own1 own2 hb hcell hcell1 fr0 fr1
      refine wp_region_head 8 (fun w' => Bx w' w.heap.size #[.slice ar n cr, .int .i64 p0, .int .i64 way, .int .i64 step, .slice (some ⟨bp, op, none⟩) m cp] 25 ∧ Bx w' b8 #[.slice a1 n c1', .int .i64 p0, .int .i64 way, .int .i64 step, .slice (some ⟨g2, 0, none⟩) m c2'] 25 ∧ w'.cell? ⟨bp, op + s * 2, none⟩ = some (.int .i64 u) ∧ w'.cell? ⟨bp, op + s * 2 + 1, none⟩ = some (.int .i64 t)) (by kernel_rfl) rfl ?_
      generalize wr.drew = Y0 at *
      have S0 := And.intro x0d (And.intro x8d (And.intro (Below.keep hbb hp1) (Below.keep hbb hp2)))
      refine HeadAt.take (i := 0) (.pointer (some ⟨b8, 4, none⟩)) rfl (by kernel_rfl) (.inl ⟨rfl, fun _ _ => by simp [go_sem]⟩) S0 ?_
      refine HeadAt.take (i := 1) (.slice (some ⟨g2, 0, none⟩) m c2') rfl (by kernel_rfl) (.inl ⟨rfl, fun w' z => ?_⟩) S0 ?_
      · (have z0 := z.2.1.cell 4 rfl; simp [go_sem, z0])
      refine HeadAt.take (i := 2) (.int .i64 (i : Int)) rfl (by kernel_rfl) (.inl ⟨rfl, fun _ _ => by simp [go_sem]⟩) S0 ?_
      refine HeadAt.take (i := 3) (.pointer (some ⟨w.heap.size, 4, none⟩)) rfl (by kernel_rfl) (.inl ⟨rfl, fun _ _ => by simp [go_sem]⟩) S0 ?_
      simp only [Act.put, List.getElem_toArray, List.getElem_cons_succ, List.getElem_cons_zero, List.setIfInBounds_toArray, List.set_cons_succ, List.set_cons_zero]
      refine HeadAt.take (i := 4) (.slice (some ⟨bp, op, none⟩) m cp) rfl (by kernel_rfl) (.inl ⟨rfl, fun w' z => ?_⟩) S0 ?_
      · (have z0 := z.1.cell 4 rfl; simp [go_sem, z0])
      refine HeadAt.take (i := 5) (.int .i64 (s : Int)) rfl (by kernel_rfl) (.inl ⟨rfl, fun _ _ => by simp [go_sem]⟩) S0 ?_
      refine HeadAt.take (i := 6) (.pointer (some ⟨bp, op + s * 2, none⟩)) rfl (by kernel_rfl) (.inl ⟨rfl, fun w' z => ?_⟩) S0 ?_
      · (simp [go_sem, hsI, hs0])
      simp only [Act.put, List.getElem_toArray, List.getElem_cons_succ, List.getElem_cons_zero, List.setIfInBounds_toArray, List.set_cons_succ, List.set_cons_zero]
      refine HeadAt.take (i := 7) (.agg #[.int .i64 u, .int .i64 t]) rfl (by kernel_rfl) (.inl ⟨rfl, fun w' z => ?_⟩) S0 ?_
      · (simp [go_sem, z.2.2.1, z.2.2.2])
      refine HeadAt.done (by kernel_rfl) ?_
      (try simp only [Act.put, List.drop_succ_cons, List.drop_zero, List.getElem_toArray, List.getElem_cons_succ, List.getElem_cons_zero])
      clear S0
      obtain ⟨own3, gs1⟩ := own2d.stored (i * 2) (.int .i64 u)
      have hcd1' : (Y0.setCell ⟨g2, i * 2, none⟩ (.int .i64 u)).cell? ⟨g2, i * 2 + 1, none⟩ = some z1 := by
        have h := World.ownsRow.cellAt own3 (i * 2 + 1) (by omega)
        rw [h, List.getElem?_set, if_neg (by omega)]
        have h2 := World.ownsRow.cellAt own2d (i * 2 + 1) (by omega)
        rw [hcd1] at h2
        exact h2.symm
      have fd2 := own3.frozenAt (i * 2 + 1)
      obtain ⟨own4, gs2⟩ := own3.stored (i * 2 + 1) (.int .i64 t)
      have gs := gtr gs1 gs2
      have HF := hid (show OrL w.heap.size B0 b8 rs ps bn true ar (some ⟨bp, op, none⟩) a1 (some ⟨g2, 0, none⟩) cr cp c1' c2' n m p0 way step w (i + 1) _ from
        ⟨x0d.gb gs (fun k hk => by cases hk; omega), x8d.gb gs (fun k hk => by cases hk; omega), own_keep own1d gs (fun k hk e => by have h1 := HD.out k hk; injection e with e; rw [← e] at h1; exact h1 rfl),
          by rw [take_snocI HOD.out.1, List.append_assoc]; rw [HOD.out.2.1, pcells_put2 _ _ _ _ _ HOD.out.2.2] at own4; exact own4,
          hbb.grown gs hbb.size (fun k hk => by cases hk; omega)⟩)
      clear own3 gs1 own4 gs2 gs x0d x8d own1d own2d hbb
      go_wp2_with fail
      refine NoPanic.normal ?_
      go_wp2
      go_roundw
      case rel => exact ⟨i + 1, by omega, by go_num, HF.out⟩
      case measure => simp [intOf]; omega
    · have him : i = m := by omega
      have hiI : (m : Int) ≤ (i : Int) := by omega
      have hv := HV.out
      obtain ⟨ps', hps'⟩ : ∃ l, l = ordrP ps bn true := ⟨_, rfl⟩
      have hmem : ∀ x, x ∈ ps' ↔ x ∈ ps := by rw [hps']; exact ordrP_mem ps bn true
      have hlen : ps'.length = ps.length := by rw [hps']; exact ordrP_len ps bn true
      have hv' : trB rs ps' p0 way step = true := by rw [trB_same hmem hlen]; exact hv
      have hTt := hT
      obtain ⟨e1, e2, e3, e4, e5, hVT⟩ := hT
      have hT' : IsTr { T with prs := ps' } rs ps' p0 way step := ⟨e1, rfl, e3, e4, e5, vt_same hVT (by rw [e2]; exact hmem) (by rw [e2]; exact hlen)⟩
      have hsame : SameT T { T with prs := ps' } := ⟨rfl, rfl, rfl, rfl, by rw [e2]; exact hmem⟩
      obtain ⟨c, hc⟩ : ∃ c, c = runM T maxI := ⟨_, rfl⟩
      have hc' : c = runM { T with prs := ps' } maxI := by rw [runM_same hsame]; exact hc
      have hB1 : ∀ x ∈ rs, -9223372036854775808 ≤ x.1 ∧ x.1 ≤ 9223372036854775807 ∧ -9223372036854775808 ≤ x.2 ∧ x.2 ≤ 9223372036854775807 := hR.2.1
      have q1 : Prs wr a1 rs := own_prs own1 HN.out.symm (by omega) hR.2.1
      have q2 : Prs wr a2 ps' := by
        have e : (ordrP ps bn true).take i ++ ps.drop i = ps' := by
          rw [List.take_of_length_le (by rw [ordrP_len]; have := HM.out; omega), List.drop_eq_nil_iff.2 (by have := HM.out; omega), List.append_nil, hps']
        rw [e] at own2
        exact own_prs own2 (by rw [hlen]; exact HM.out.symm) (by omega) (fun x hx => hP.2.1 x ((hmem x).1 hx))
      have hP1 := fun V h1 h2 => Plays_ok ar ap cr cp rs ps p0 way step V h1 h2 hv T hTt c hc
      have hP2 := fun V h1 h2 => Plays_ok a1 a2 c1' c2' rs ps' p0 way step V h1 h2 hv' { T with prs := ps' } hT' c hc'
      have hE1 := fun V h1 h2 => End_ok ar ap cr cp rs ps p0 way step V h1 h2 hv (by rw [← HM.out]; exact hm1) T hTt c hc
      have hE2 := fun V h1 h2 => End_ok a1 a2 c1' c2' rs ps' p0 way step V h1 h2 hv' (by rw [hlen, ← HM.out]; exact hm1) { T with prs := ps' } hT' c hc'
      have hS1 := fun V h1 h2 => Steps_ok ar ap cr cp rs ps p0 way step V h1 h2 hv T hTt c hc
      have hS2 := fun V h1 h2 => Steps_ok a1 a2 c1' c2' rs ps' p0 way step V h1 h2 hv' { T with prs := ps' } hT' c hc'
      have hW : ∀ (i s : Nat) (u t : Int), i < m → s < m → ps[s]? = some (u, t) → ps'[i]? = some (u, t) → ∃ r : Int, (∀ V, Prs V ar rs → Prs V ap ps → Calls Try.prog 21 #[.agg #[.slice ar rs.length cr, .int .i64 p0, .int .i64 way, .int .i64 step, .slice ap ps.length cp], .int .i64 (s : Int)] V fun e w' => e = .returned (.tuple #[.int .i64 r, .int .i64 0]) ∧ Below V.heap.size V w') ∧
          (∀ V, Prs V a1 rs → Prs V a2 ps' → Calls Try.prog 21 #[.agg #[.slice a1 rs.length c1', .int .i64 p0, .int .i64 way, .int .i64 step, .slice a2 ps'.length c2'], .int .i64 (i : Int)] V fun e w' => e = .returned (.tuple #[.int .i64 r, .int .i64 0]) ∧ Below V.heap.size V w') := fun i s u t hi hs h1 h2 =>
        ⟨_, fun V a b => Wait_of ar ap cr cp rs ps p0 way step (s : Int) V a b _ _ _ (fun W c1 c2 => serviceOf_ok ar ap cr cp rs ps p0 way step (s : Int) W c1 c2 hv (inR_iff.2 (by have := HM.out; omega)) T hTt c hc u t h1),
          fun V a b => Wait_of a1 a2 c1' c2' rs ps' p0 way step (i : Int) V a b _ _ _ (fun W d1 d2 => serviceOf_ok a1 a2 c1' c2' rs ps' p0 way step (i : Int) W d1 d2 hv' (inR_iff.2 (by have := HM.out; omega)) { T with prs := ps' } hT' c hc' u t h2)⟩
      have HAT := hid (fun (i : Nat) (hi : i < ps.length) => (by rw [hps']; exact ordrP_at hi : ps'[i]? = ps[srcO bn true ps.length i]?))
      have HWT := hid hW
      unfold PlaysP at hP1 hP2
      unfold StepsP at hS1 hS2
      rw [hlen, ← HN.out, ← HM.out] at hP2 hE2 hS2
      rw [← HN.out, ← HM.out] at hP1 hE1 hS1
      obtain ⟨f, hf⟩ : ∃ f, f = c.fin := ⟨_, rfl⟩
      rw [← hf] at hE1 hE2
      have hff : (f != f) = false := by simp
      have HLEN := hid hlen
      have c0 := x0.cell 0 rfl; have c1 := x0.cell 1 rfl; have c2 := x0.cell 2 rfl; have c3 := x0.cell 3 rfl; have c4 := x0.cell 4 rfl
      have d0 := x8.cell 0 rfl; have d1 := x8.cell 1 rfl; have d2 := x8.cell 2 rfl; have d3 := x8.cell 3 rfl; have d4 := x8.cell 4 rfl
      clear hW hf hv hv' e1 e2 e3 e4 e5 hTt hT' hsame hc hc' hB1 hlen own1 own2 hVT hmem him HD hl1 hl2 hps'
      go_wp2_with fail
      refine (hP1 _ (hR.below hb (Nat.le_refl _)) (hP.below hb (Nat.le_refl _))).mono ?_
      rintro e V1 ⟨hb1, aa, ca, rfl, r1⟩
      replace q1 := q1.below hb1 (Nat.le_refl _); replace q2 := q2.below hb1 (Nat.le_refl _); (try clear c0 c1 c2 c3 c4); replace x0 := x0.below hb1; have c0 := x0.cell 0 rfl; have c1 := x0.cell 1 rfl; have c2 := x0.cell 2 rfl; have c3 := x0.cell 3 rfl; have c4 := x0.cell 4 rfl; (try clear d0 d1 d2 d3 d4); replace x8 := x8.below hb1; have d0 := x8.cell 0 rfl; have d1 := x8.cell 1 rfl; have d2 := x8.cell 2 rfl; have d3 := x8.cell 3 rfl; have d4 := x8.cell 4 rfl; replace hb := hb.trans (hb1.mono hb.size); clear hb1
      clear hP1
      go_wp2_with fail
      refine (hP2 _ q1 q2).mono ?_
      rintro e V2 ⟨hb1, ab, cb, rfl, r2⟩
      replace q1 := q1.below hb1 (Nat.le_refl _); replace q2 := q2.below hb1 (Nat.le_refl _); replace r1 := r1.below hb1 (Nat.le_refl _); (try clear c0 c1 c2 c3 c4); replace x0 := x0.below hb1; have c0 := x0.cell 0 rfl; have c1 := x0.cell 1 rfl; have c2 := x0.cell 2 rfl; have c3 := x0.cell 3 rfl; have c4 := x0.cell 4 rfl; (try clear d0 d1 d2 d3 d4); replace x8 := x8.below hb1; have d0 := x8.cell 0 rfl; have d1 := x8.cell 1 rfl; have d2 := x8.cell 2 rfl; have d3 := x8.cell 3 rfl; have d4 := x8.cell 4 rfl; replace hb := hb.trans (hb1.mono hb.size); clear hb1
      clear hP2
      go_wp2_with fail
      refine (hE1 _ (hR.below hb (Nat.le_refl _)) (hP.below hb (Nat.le_refl _))).mono ?_
      rintro e V3 ⟨rfl, hb1⟩
      replace q1 := q1.below hb1 (Nat.le_refl _); replace q2 := q2.below hb1 (Nat.le_refl _); replace r1 := r1.below hb1 (Nat.le_refl _); replace r2 := r2.below hb1 (Nat.le_refl _); (try clear c0 c1 c2 c3 c4); replace x0 := x0.below hb1; have c0 := x0.cell 0 rfl; have c1 := x0.cell 1 rfl; have c2 := x0.cell 2 rfl; have c3 := x0.cell 3 rfl; have c4 := x0.cell 4 rfl; (try clear d0 d1 d2 d3 d4); replace x8 := x8.below hb1; have d0 := x8.cell 0 rfl; have d1 := x8.cell 1 rfl; have d2 := x8.cell 2 rfl; have d3 := x8.cell 3 rfl; have d4 := x8.cell 4 rfl; replace hb := hb.trans (hb1.mono hb.size); clear hb1
      clear hE1
      go_wp2_with fail
      refine (hE2 _ q1 q2).mono ?_
      rintro e V4 ⟨rfl, hb1⟩
      replace q1 := q1.below hb1 (Nat.le_refl _); replace q2 := q2.below hb1 (Nat.le_refl _); replace r1 := r1.below hb1 (Nat.le_refl _); replace r2 := r2.below hb1 (Nat.le_refl _); (try clear c0 c1 c2 c3 c4); replace x0 := x0.below hb1; have c0 := x0.cell 0 rfl; have c1 := x0.cell 1 rfl; have c2 := x0.cell 2 rfl; have c3 := x0.cell 3 rfl; have c4 := x0.cell 4 rfl; (try clear d0 d1 d2 d3 d4); replace x8 := x8.below hb1; have d0 := x8.cell 0 rfl; have d1 := x8.cell 1 rfl; have d2 := x8.cell 2 rfl; have d3 := x8.cell 3 rfl; have d4 := x8.cell 4 rfl; replace hb := hb.trans (hb1.mono hb.size); clear hb1
      clear hE2
      go_wp2_with fail
      refine (SamePlays_eq aa ab ca cb c.plays _ r1 r2).mono ?_
      rintro e V5 ⟨rfl, hb1⟩
      replace q1 := q1.below hb1 (Nat.le_refl _); replace q2 := q2.below hb1 (Nat.le_refl _); replace x0 := x0.below hb1; replace x8 := x8.below hb1; replace hb := hb.trans (hb1.mono hb.size); clear hb1
      clear r1 r2 c0 c1 c2 c3 c4 d0 d1 d2 d3 d4
      go_wp2_with fail
      clear hff
      go_loopw [6, 19] (fun v6 v19 wx => ∃ i : Nat, i ≤ m ∧ v6 = .bool false ∧ v19 = .int .i64 (i : Int) ∧ Below V5.heap.size V5 wx) (fun _ v19 _ => m - (intOf v19).toNat)
      case atStart => exact ⟨0, Nat.zero_le _, rfl, rfl, Below.refl _ _⟩
      case round =>
        obtain ⟨i, hi, rfl, rfl, hb1⟩ := hrel
        have hbr := hb.trans (hb1.mono hb.size)
        replace q1 := q1.below hb1 (Nat.le_refl _); replace q2 := q2.below hb1 (Nat.le_refl _)
        replace x0 := x0.below hb1; replace x8 := x8.below hb1
        have c0 := x0.cell 0 rfl; have c1 := x0.cell 1 rfl; have c2 := x0.cell 2 rfl; have c3 := x0.cell 3 rfl; have c4 := x0.cell 4 rfl
        have d0 := x8.cell 0 rfl; have d1 := x8.cell 1 rfl; have d2 := x8.cell 2 rfl; have d3 := x8.cell 3 rfl; have d4 := x8.cell 4 rfl
        by_cases hlt : i < m
        · have hiI : (i : Int) < (m : Int) := by omega
          have hi0 : (0 : Int) ≤ (i : Int) := by omega
          have hsx : ((i : Int) + (bn : Int)) % (m : Int) = (((i + bn) % m : Nat) : Int) := by rw [Int.natCast_emod, Int.natCast_add]
          have hxm := Nat.mod_lt (i + bn) (show 0 < m by omega)
          obtain ⟨s, hs⟩ : ∃ s, s = srcO bn true m i := ⟨_, rfl⟩
          have hs' : s = m - 1 - (i + bn) % m := by rw [hs]; rfl
          generalize (i + bn) % m = x at hsx hxm hs'
          have hxI : (x : Int) < (m : Int) := by omega
          have hx0 : (0 : Int) ≤ (x : Int) := by omega
          have hsm : s < m := by omega
          have hse : (m : Int) - 1 - (x : Int) = (s : Int) := by omega
          have hsI : (s : Int) < (m : Int) := by omega
          have hs0 : (0 : Int) ≤ (s : Int) := by omega
          have hmn : ¬ m = 0 := by omega
          have hm1I : (1 : Int) ≤ (m : Int) := by omega
          have HSS := hid hs
          clear hs hs' hxm
          obtain ⟨⟨u, t⟩, hut⟩ : ∃ q, ps[s]? = some q := ⟨_, List.getElem?_eq_getElem (show s < ps.length by rw [← HM.out]; exact hsm)⟩
          have hut' : ps'[i]? = some (u, t) := by rw [HAT.out i (by rw [← HM.out]; exact hlt), ← HM.out, ← HSS.out]; exact hut
          obtain ⟨r, hw1, hw2⟩ := HWT.out i s u t hlt hsm hut hut'
          rw [HLEN.out, ← HN.out, ← HM.out] at hw2
          rw [← HN.out, ← HM.out] at hw1
          have hrr : (r != r) = false := by simp
          clear hut hut'
          go_wp2_with fail
          (try rw [hsx])
          refine (hw1 _ (hR.below hbr (Nat.le_refl _)) (hP.below hbr (Nat.le_refl _))).mono ?_
          rintro e W5 ⟨rfl, hb2⟩
          replace hb1 := hb1.trans (hb2.mono hb1.size)
          replace q1 := q1.below hb2 (Nat.le_refl _); replace q2 := q2.below hb2 (Nat.le_refl _)
          clear c0 c1 c2 c3 c4 d0 d1 d2 d3 d4
          replace x0 := x0.below hb2; replace x8 := x8.below hb2
          have d0 := x8.cell 0 rfl; have d1 := x8.cell 1 rfl; have d2 := x8.cell 2 rfl; have d3 := x8.cell 3 rfl; have d4 := x8.cell 4 rfl
          clear hb2
          go_wp2_with fail
          refine (hw2 _ q1 q2).mono ?_
          rintro e W6 ⟨rfl, hb2⟩
          replace hb1 := hb1.trans (hb2.mono hb1.size)
          clear hb2 d0 d1 d2 d3 d4 hw1 hw2
          go_wp2
          go_roundw
          case rel => exact ⟨i + 1, by omega, rfl, by go_num, hb1⟩
          case measure => simp [intOf]; omega
        · have hiI : (m : Int) ≤ (i : Int) := by omega
          obtain ⟨k, hk⟩ : ∃ k : Nat, k = c.steps := ⟨_, rfl⟩
          rw [← hk] at hS1 hS2
          have hkk : ((k : Int) == (k : Int)) = true := by simp
          replace hb := hbr
          clear hk hbr hb1
          go_wp2_with fail
          refine (hS1 _ (hR.below hb (Nat.le_refl _)) (hP.below hb (Nat.le_refl _))).mono ?_
          rintro e W5 ⟨hb1, rfl⟩
          replace q1 := q1.below hb1 (Nat.le_refl _); replace q2 := q2.below hb1 (Nat.le_refl _); replace x0 := x0.below hb1; (try clear d0 d1 d2 d3 d4); replace x8 := x8.below hb1; have d0 := x8.cell 0 rfl; have d1 := x8.cell 1 rfl; have d2 := x8.cell 2 rfl; have d3 := x8.cell 3 rfl; have d4 := x8.cell 4 rfl; replace hb := hb.trans (hb1.mono hb.size); clear hb1
          go_wp2_with fail
          refine (hS2 _ q1 q2).mono ?_
          rintro e W6 ⟨hb1, rfl⟩
          replace hb := hb.trans (hb1.mono hb.size)
          clear hb1 hS1 hS2 x0 x8 c0 c1 c2 c3 c4 d0 d1 d2 d3 d4 q1 q2
          go_wp2_with fail
          refine (works_any _).mono ?_
          rintro e V3 ⟨rfl, hb1⟩
          replace hb := hb.trans (hb1.mono hb.size)
          clear hb1
          go_wp2
          go_ret
          exact ⟨rfl, hb⟩

set_option maxRecDepth 100000 in
set_option maxHeartbeats 6000000 in
theorem or_false (ar ap : Option Addr) (cr cp : Nat) (rs ps : List (Int × Int)) (p0 way step : Int) (bn : Nat) (w : World) (hR : Prs w ar rs) (hP : Prs w ap ps) (hv : rdB rs ps p0 way step = true) (hbn : bn ≤ 1000) (hm1 : ps.length ≠ 0) (T : Tr) (hT : IsTr T rs ps p0 way step) :
    Calls Try.prog 4 #[.agg #[.slice ar rs.length cr, .int .i64 p0, .int .i64 way, .int .i64 step, .slice ap ps.length cp], .int .i64 (bn : Int), .bool false] w (WorksP w) := by
  obtain ⟨hr6, hp12, hr1⟩ := rdB_6 (rdB_len hv)
  have hvt := rdB_len hv
  obtain ⟨n, hn⟩ : ∃ n, n = rs.length := ⟨_, rfl⟩
  obtain ⟨m, hm⟩ : ∃ m, m = ps.length := ⟨_, rfl⟩
  have HN := hid hn; have HM := hid hm
  rw [← hn, ← hm]
  rw [← hn] at hr6 hr1; rw [← hm] at hp12 hm1
  obtain ⟨W, hW, hb, hs, x0⟩ := boxes1 w #[.slice ar n cr, .int .i64 p0, .int .i64 way, .int .i64 step, .slice ap m cp] 25
  clear hs
  have hrd := ready_any ar ap cr cp rs ps p0 way step W (by omega) (by omega) (fun h => hR.below hb (Nat.le_refl _)) (fun h => hP.below hb (Nat.le_refl _))
  rw [hv, ← hn, ← hm] at hrd
  have HV := hid hvt
  have c0 := x0.cell 0 rfl; have c1 := x0.cell 1 rfl; have c2 := x0.cell 2 rfl; have c3 := x0.cell 3 rfl; have c4 := x0.cell 4 rfl
  clear hv hvt hn hm
  have hmI : (m : Int) ≤ 12 := by omega
  have hm0 : (0 : Int) < (m : Int) := by omega
  have hmz : ((m : Int) == 0) = false := by simp; omega
  have hbI : (bn : Int) ≤ 1000 := by omega
  have hb0 : (0 : Int) ≤ (bn : Int) := by omega
  have hd1 : decide ((bn : Int) < 0) = false := by simp
  have hd2 : decide ((1000 : Int) < (bn : Int)) = false := by simp; omega
  have hcp := fun V h1 h2 => copy_any ar ap cr cp rs ps p0 way step V h1 h2 (by have := HN.out; omega) (by have := HM.out; omega)
  unfold CopyP at hcp
  rw [← HN.out, ← HM.out] at hcp
  go_enter Try.func4, Try.ntmps4
  go_wp2_with fail
  refine hrd.mono ?_
  rintro e W1 ⟨rfl, hb1⟩
  clear hW hrd
  (try clear c0 c1 c2 c3 c4); replace x0 := x0.below hb1; have c0 := x0.cell 0 rfl; have c1 := x0.cell 1 rfl; have c2 := x0.cell 2 rfl; have c3 := x0.cell 3 rfl; have c4 := x0.cell 4 rfl; replace hb := hb.trans (hb1.mono hb.size); clear hb1
  go_wp2_with fail
  refine (hcp _ (hR.below hb (Nat.le_refl _)) (hP.below hb (Nat.le_refl _))).mono ?_
  rintro e W2 ⟨hb1, a1, a2, c1', c2', rfl, own1, own2, hdis⟩
  clear hcp
  have hl1 := own_lt own1; have hl2 := own_lt own2
  have hsW := hb.size
  obtain ⟨B0, hB0⟩ : ∃ B, B = W1.heap.size := ⟨_, rfl⟩
  have hxB : w.heap.size < B0 := by rw [hB0]; exact x0.lt
  rw [← hB0] at own1 own2
  replace x0 := x0.below hb1
  replace hb := hb.trans (hb1.mono hb.size)
  obtain ⟨b8, hb8⟩ : ∃ b, W2.heap.size = b := ⟨_, rfl⟩
  have hbx := below_one (w := W2) (.cells #[.slice a1 n c1', .int .i64 p0, .int .i64 way, .int .i64 step, .slice a2 m c2'] 25)
  have hB8 : B0 ≤ b8 := by rw [hB0, ← hb8]; exact hb1.size
  have HL := hid (show OrL w.heap.size B0 b8 rs ps bn false ar ap a1 a2 cr cp c1' c2' n m p0 way step w 0 (W2.alloc (.cells #[.slice a1 n c1', .int .i64 p0, .int .i64 way, .int .i64 step, .slice a2 m c2'] 25)) from
    ⟨x0.below hbx, Bx.new' hb8 _ _, own_below2 own1 hbx, by simpa using own_below2 own2 hbx, hb.trans (hbx.mono hb.size)⟩)
  rw [hb8] at hl1 hl2
  have HD := hid hdis
  clear x0 c0 c1 c2 c3 c4 own1 own2 hb hbx hb1 hB0 hdis
  go_wp2
  clear hd1 hd2 hmz
  go_loopw [9] (fun v9 wr => ∃ i : Nat, i ≤ m ∧ v9 = .int .i64 (i : Int) ∧ OrL w.heap.size B0 b8 rs ps bn false ar ap a1 a2 cr cp c1' c2' n m p0 way step w i wr) (fun v9 _ => m - (intOf v9).toNat)
  case atStart => exact ⟨0, Nat.zero_le _, rfl, HL.out⟩
  case round =>
    clear HL
    obtain ⟨i, hi, rfl, HR⟩ := hrel
    obtain ⟨x0, x8, own1, own2, hb⟩ := HR
    by_cases hlt : i < m
    · have hiI : (i : Int) < (m : Int) := by omega
      have hi0 : (0 : Int) ≤ (i : Int) := by omega
      have hsx0 : ((i : Int) + (bn : Int)) % (m : Int) = (((i + bn) % m : Nat) : Int) := by rw [Int.natCast_emod, Int.natCast_add]
      have hxm := Nat.mod_lt (i + bn) (show 0 < m by omega)
      obtain ⟨s, hs⟩ : ∃ s, s = srcO bn false m i := ⟨_, rfl⟩
      have hs' : s = (i + bn) % m := by rw [hs]; rfl
      have hsx : ((i : Int) + (bn : Int)) % (m : Int) = (s : Int) := by rw [hsx0, hs']
      have hsm : s < m := by omega
      have hsI : (s : Int) < (m : Int) := by omega
      have hs0 : (0 : Int) ≤ (s : Int) := by omega
      have hmn : ¬ m = 0 := by omega
      have hm1I : (1 : Int) ≤ (m : Int) := by omega
      have HSS := hid hs
      clear hs hs' hxm hsx0
      obtain ⟨bp, op, u, t, rfl, _, hp1, hp2, hub, htb, hps, _⟩ := hP.at (show s < ps.length by rw [← HM.out]; exact hsm)
      obtain ⟨pd, hpd⟩ : ∃ q, ps[i]? = some q := ⟨_, List.getElem?_eq_getElem (show i < ps.length by rw [← HM.out]; exact hlt)⟩
      have hod : (ordrP ps bn false)[i]? = some (u, t) := by rw [ordrP_at (by rw [← HM.out]; exact hlt), ← HM.out, ← HSS.out]; exact hps.out
      obtain ⟨g2, cap, e2, hg2⟩ : ∃ g2 cap, Value.slice a2 m c2' = .slice (some ⟨g2, 0, none⟩) m cap ∧ B0 ≤ g2 := by
        rcases own2.2 with ⟨_, h0⟩ | ⟨g2, cap, cur, e, hge, _⟩
        · omega
        · exact ⟨g2, cap, e, hge⟩
      simp only [Value.slice.injEq, true_and] at e2
      obtain ⟨rfl, rfl⟩ := e2
      have hg28 := hl2 g2 rfl
      have hA : ((ordrP ps bn false).take i).length = i := by rw [List.length_take, ordrP_len]; have := HM.out; omega
      have hdr : ps.drop i = pd :: ps.drop (i + 1) := by
        have hil : i < ps.length := by rw [← HM.out]; exact hlt
        rw [List.drop_eq_getElem_cons hil]
        rw [List.getElem?_eq_getElem hil] at hpd
        injection hpd with e
        rw [e]
      have hcell := World.ownsRow.cellAt own2 (i * 2) (by omega)
      have hcell1 := World.ownsRow.cellAt own2 (i * 2 + 1) (by omega)
      have hv0 : (pcells ((ordrP ps bn false).take i ++ ps.drop i))[i * 2]? = some (.int .i64 pd.1) := by rw [hdr]; exact pcells_get _ _ _ hA
      have hv1 : ∃ z, (pcells ((ordrP ps bn false).take i ++ ps.drop i))[i * 2 + 1]? = some z := ⟨_, List.getElem?_eq_getElem (by rw [pcells_len, List.length_append, List.length_drop, hA]; have := HM.out; omega)⟩
      obtain ⟨z1, hv1⟩ := hv1
      rw [hv0] at hcell
      rw [hv1] at hcell1
      have fr0 := own2.frozenAt (i * 2)
      have fr1 := own2.frozenAt (i * 2 + 1)
      have HOD := hid (And.intro hod (And.intro hdr hA))
      clear hod hpd hdr hA hv0 hv1 hps
      go_upto_region 11 with fail
      (try rw [hsx])
      have hbd := (Below.refl wr.heap.size wr).drew
      have x0d := x0.below hbd; have x8d := x8.below hbd
      have own1d := own_below2 own1 hbd; have own2d := own_below2 own2 hbd
      have hbb := hb.trans (hbd.mono hb.size)
      have hcd := Below.keep hbd hcell; have hcd1 := Below.keep hbd hcell1
      have fd0 := own2d.frozenAt (i * 2); have fd1 := own2d.frozenAt (i * 2 + 1)
      clear hbd x0 x8 own1 own2 hb hcell hcell1 fr0 fr1
      refine wp_region_head 8 (fun w' => Bx w' w.heap.size #[.slice ar n cr, .int .i64 p0, .int .i64 way, .int .i64 step, .slice (some ⟨bp, op, none⟩) m cp] 25 ∧ Bx w' b8 #[.slice a1 n c1', .int .i64 p0, .int .i64 way, .int .i64 step, .slice (some ⟨g2, 0, none⟩) m c2'] 25 ∧ w'.cell? ⟨bp, op + s * 2, none⟩ = some (.int .i64 u) ∧ w'.cell? ⟨bp, op + s * 2 + 1, none⟩ = some (.int .i64 t)) (by kernel_rfl) rfl ?_
      generalize wr.drew = Y0 at *
      have S0 := And.intro x0d (And.intro x8d (And.intro (Below.keep hbb hp1) (Below.keep hbb hp2)))
      refine HeadAt.take (i := 0) (.pointer (some ⟨b8, 4, none⟩)) rfl (by kernel_rfl) (.inl ⟨rfl, fun _ _ => by simp [go_sem]⟩) S0 ?_
      refine HeadAt.take (i := 1) (.slice (some ⟨g2, 0, none⟩) m c2') rfl (by kernel_rfl) (.inl ⟨rfl, fun w' z => ?_⟩) S0 ?_
      · (have z0 := z.2.1.cell 4 rfl; simp [go_sem, z0])
      refine HeadAt.take (i := 2) (.int .i64 (i : Int)) rfl (by kernel_rfl) (.inl ⟨rfl, fun _ _ => by simp [go_sem]⟩) S0 ?_
      refine HeadAt.take (i := 3) (.pointer (some ⟨w.heap.size, 4, none⟩)) rfl (by kernel_rfl) (.inl ⟨rfl, fun _ _ => by simp [go_sem]⟩) S0 ?_
      simp only [Act.put, List.getElem_toArray, List.getElem_cons_succ, List.getElem_cons_zero, List.setIfInBounds_toArray, List.set_cons_succ, List.set_cons_zero]
      refine HeadAt.take (i := 4) (.slice (some ⟨bp, op, none⟩) m cp) rfl (by kernel_rfl) (.inl ⟨rfl, fun w' z => ?_⟩) S0 ?_
      · (have z0 := z.1.cell 4 rfl; simp [go_sem, z0])
      refine HeadAt.take (i := 5) (.int .i64 (s : Int)) rfl (by kernel_rfl) (.inl ⟨rfl, fun _ _ => by simp [go_sem]⟩) S0 ?_
      refine HeadAt.take (i := 6) (.pointer (some ⟨bp, op + s * 2, none⟩)) rfl (by kernel_rfl) (.inl ⟨rfl, fun w' z => ?_⟩) S0 ?_
      · (simp [go_sem, hsI, hs0])
      simp only [Act.put, List.getElem_toArray, List.getElem_cons_succ, List.getElem_cons_zero, List.setIfInBounds_toArray, List.set_cons_succ, List.set_cons_zero]
      refine HeadAt.take (i := 7) (.agg #[.int .i64 u, .int .i64 t]) rfl (by kernel_rfl) (.inl ⟨rfl, fun w' z => ?_⟩) S0 ?_
      · (simp [go_sem, z.2.2.1, z.2.2.2])
      refine HeadAt.done (by kernel_rfl) ?_
      (try simp only [Act.put, List.drop_succ_cons, List.drop_zero, List.getElem_toArray, List.getElem_cons_succ, List.getElem_cons_zero])
      clear S0
      obtain ⟨own3, gs1⟩ := own2d.stored (i * 2) (.int .i64 u)
      have hcd1' : (Y0.setCell ⟨g2, i * 2, none⟩ (.int .i64 u)).cell? ⟨g2, i * 2 + 1, none⟩ = some z1 := by
        have h := World.ownsRow.cellAt own3 (i * 2 + 1) (by omega)
        rw [h, List.getElem?_set, if_neg (by omega)]
        have h2 := World.ownsRow.cellAt own2d (i * 2 + 1) (by omega)
        rw [hcd1] at h2
        exact h2.symm
      have fd2 := own3.frozenAt (i * 2 + 1)
      obtain ⟨own4, gs2⟩ := own3.stored (i * 2 + 1) (.int .i64 t)
      have gs := gtr gs1 gs2
      have HF := hid (show OrL w.heap.size B0 b8 rs ps bn false ar (some ⟨bp, op, none⟩) a1 (some ⟨g2, 0, none⟩) cr cp c1' c2' n m p0 way step w (i + 1) _ from
        ⟨x0d.gb gs (fun k hk => by cases hk; omega), x8d.gb gs (fun k hk => by cases hk; omega), own_keep own1d gs (fun k hk e => by have h1 := HD.out k hk; injection e with e; rw [← e] at h1; exact h1 rfl),
          by rw [take_snocI HOD.out.1, List.append_assoc]; rw [HOD.out.2.1, pcells_put2 _ _ _ _ _ HOD.out.2.2] at own4; exact own4,
          hbb.grown gs hbb.size (fun k hk => by cases hk; omega)⟩)
      clear own3 gs1 own4 gs2 gs x0d x8d own1d own2d hbb
      go_wp2_with fail
      refine NoPanic.normal ?_
      go_wp2
      go_roundw
      case rel => exact ⟨i + 1, by omega, by go_num, HF.out⟩
      case measure => simp [intOf]; omega
    · have him : i = m := by omega
      have hiI : (m : Int) ≤ (i : Int) := by omega
      have hv := HV.out
      obtain ⟨ps', hps'⟩ : ∃ l, l = ordrP ps bn false := ⟨_, rfl⟩
      have hmem : ∀ x, x ∈ ps' ↔ x ∈ ps := by rw [hps']; exact ordrP_mem ps bn false
      have hlen : ps'.length = ps.length := by rw [hps']; exact ordrP_len ps bn false
      have hv' : trB rs ps' p0 way step = true := by rw [trB_same hmem hlen]; exact hv
      have hTt := hT
      obtain ⟨e1, e2, e3, e4, e5, hVT⟩ := hT
      have hT' : IsTr { T with prs := ps' } rs ps' p0 way step := ⟨e1, rfl, e3, e4, e5, vt_same hVT (by rw [e2]; exact hmem) (by rw [e2]; exact hlen)⟩
      have hsame : SameT T { T with prs := ps' } := ⟨rfl, rfl, rfl, rfl, by rw [e2]; exact hmem⟩
      obtain ⟨c, hc⟩ : ∃ c, c = runM T maxI := ⟨_, rfl⟩
      have hc' : c = runM { T with prs := ps' } maxI := by rw [runM_same hsame]; exact hc
      have hB1 : ∀ x ∈ rs, -9223372036854775808 ≤ x.1 ∧ x.1 ≤ 9223372036854775807 ∧ -9223372036854775808 ≤ x.2 ∧ x.2 ≤ 9223372036854775807 := hR.2.1
      have q1 : Prs wr a1 rs := own_prs own1 HN.out.symm (by omega) hR.2.1
      have q2 : Prs wr a2 ps' := by
        have e : (ordrP ps bn false).take i ++ ps.drop i = ps' := by
          rw [List.take_of_length_le (by rw [ordrP_len]; have := HM.out; omega), List.drop_eq_nil_iff.2 (by have := HM.out; omega), List.append_nil, hps']
        rw [e] at own2
        exact own_prs own2 (by rw [hlen]; exact HM.out.symm) (by omega) (fun x hx => hP.2.1 x ((hmem x).1 hx))
      have hP1 := fun V h1 h2 => Plays_ok ar ap cr cp rs ps p0 way step V h1 h2 hv T hTt c hc
      have hP2 := fun V h1 h2 => Plays_ok a1 a2 c1' c2' rs ps' p0 way step V h1 h2 hv' { T with prs := ps' } hT' c hc'
      have hE1 := fun V h1 h2 => End_ok ar ap cr cp rs ps p0 way step V h1 h2 hv (by rw [← HM.out]; exact hm1) T hTt c hc
      have hE2 := fun V h1 h2 => End_ok a1 a2 c1' c2' rs ps' p0 way step V h1 h2 hv' (by rw [hlen, ← HM.out]; exact hm1) { T with prs := ps' } hT' c hc'
      have hS1 := fun V h1 h2 => Steps_ok ar ap cr cp rs ps p0 way step V h1 h2 hv T hTt c hc
      have hS2 := fun V h1 h2 => Steps_ok a1 a2 c1' c2' rs ps' p0 way step V h1 h2 hv' { T with prs := ps' } hT' c hc'
      have hW : ∀ (i s : Nat) (u t : Int), i < m → s < m → ps[s]? = some (u, t) → ps'[i]? = some (u, t) → ∃ r : Int, (∀ V, Prs V ar rs → Prs V ap ps → Calls Try.prog 21 #[.agg #[.slice ar rs.length cr, .int .i64 p0, .int .i64 way, .int .i64 step, .slice ap ps.length cp], .int .i64 (s : Int)] V fun e w' => e = .returned (.tuple #[.int .i64 r, .int .i64 0]) ∧ Below V.heap.size V w') ∧
          (∀ V, Prs V a1 rs → Prs V a2 ps' → Calls Try.prog 21 #[.agg #[.slice a1 rs.length c1', .int .i64 p0, .int .i64 way, .int .i64 step, .slice a2 ps'.length c2'], .int .i64 (i : Int)] V fun e w' => e = .returned (.tuple #[.int .i64 r, .int .i64 0]) ∧ Below V.heap.size V w') := fun i s u t hi hs h1 h2 =>
        ⟨_, fun V a b => Wait_of ar ap cr cp rs ps p0 way step (s : Int) V a b _ _ _ (fun W c1 c2 => serviceOf_ok ar ap cr cp rs ps p0 way step (s : Int) W c1 c2 hv (inR_iff.2 (by have := HM.out; omega)) T hTt c hc u t h1),
          fun V a b => Wait_of a1 a2 c1' c2' rs ps' p0 way step (i : Int) V a b _ _ _ (fun W d1 d2 => serviceOf_ok a1 a2 c1' c2' rs ps' p0 way step (i : Int) W d1 d2 hv' (inR_iff.2 (by have := HM.out; omega)) { T with prs := ps' } hT' c hc' u t h2)⟩
      have HAT := hid (fun (i : Nat) (hi : i < ps.length) => (by rw [hps']; exact ordrP_at hi : ps'[i]? = ps[srcO bn false ps.length i]?))
      have HWT := hid hW
      unfold PlaysP at hP1 hP2
      unfold StepsP at hS1 hS2
      rw [hlen, ← HN.out, ← HM.out] at hP2 hE2 hS2
      rw [← HN.out, ← HM.out] at hP1 hE1 hS1
      obtain ⟨f, hf⟩ : ∃ f, f = c.fin := ⟨_, rfl⟩
      rw [← hf] at hE1 hE2
      have hff : (f != f) = false := by simp
      have HLEN := hid hlen
      have c0 := x0.cell 0 rfl; have c1 := x0.cell 1 rfl; have c2 := x0.cell 2 rfl; have c3 := x0.cell 3 rfl; have c4 := x0.cell 4 rfl
      have d0 := x8.cell 0 rfl; have d1 := x8.cell 1 rfl; have d2 := x8.cell 2 rfl; have d3 := x8.cell 3 rfl; have d4 := x8.cell 4 rfl
      clear hW hf hv hv' e1 e2 e3 e4 e5 hTt hT' hsame hc hc' hB1 hlen own1 own2 hVT hmem him HD hl1 hl2 hps'
      go_wp2_with fail
      refine (hP1 _ (hR.below hb (Nat.le_refl _)) (hP.below hb (Nat.le_refl _))).mono ?_
      rintro e V1 ⟨hb1, aa, ca, rfl, r1⟩
      replace q1 := q1.below hb1 (Nat.le_refl _); replace q2 := q2.below hb1 (Nat.le_refl _); (try clear c0 c1 c2 c3 c4); replace x0 := x0.below hb1; have c0 := x0.cell 0 rfl; have c1 := x0.cell 1 rfl; have c2 := x0.cell 2 rfl; have c3 := x0.cell 3 rfl; have c4 := x0.cell 4 rfl; (try clear d0 d1 d2 d3 d4); replace x8 := x8.below hb1; have d0 := x8.cell 0 rfl; have d1 := x8.cell 1 rfl; have d2 := x8.cell 2 rfl; have d3 := x8.cell 3 rfl; have d4 := x8.cell 4 rfl; replace hb := hb.trans (hb1.mono hb.size); clear hb1
      clear hP1
      go_wp2_with fail
      refine (hP2 _ q1 q2).mono ?_
      rintro e V2 ⟨hb1, ab, cb, rfl, r2⟩
      replace q1 := q1.below hb1 (Nat.le_refl _); replace q2 := q2.below hb1 (Nat.le_refl _); replace r1 := r1.below hb1 (Nat.le_refl _); (try clear c0 c1 c2 c3 c4); replace x0 := x0.below hb1; have c0 := x0.cell 0 rfl; have c1 := x0.cell 1 rfl; have c2 := x0.cell 2 rfl; have c3 := x0.cell 3 rfl; have c4 := x0.cell 4 rfl; (try clear d0 d1 d2 d3 d4); replace x8 := x8.below hb1; have d0 := x8.cell 0 rfl; have d1 := x8.cell 1 rfl; have d2 := x8.cell 2 rfl; have d3 := x8.cell 3 rfl; have d4 := x8.cell 4 rfl; replace hb := hb.trans (hb1.mono hb.size); clear hb1
      clear hP2
      go_wp2_with fail
      refine (hE1 _ (hR.below hb (Nat.le_refl _)) (hP.below hb (Nat.le_refl _))).mono ?_
      rintro e V3 ⟨rfl, hb1⟩
      replace q1 := q1.below hb1 (Nat.le_refl _); replace q2 := q2.below hb1 (Nat.le_refl _); replace r1 := r1.below hb1 (Nat.le_refl _); replace r2 := r2.below hb1 (Nat.le_refl _); (try clear c0 c1 c2 c3 c4); replace x0 := x0.below hb1; have c0 := x0.cell 0 rfl; have c1 := x0.cell 1 rfl; have c2 := x0.cell 2 rfl; have c3 := x0.cell 3 rfl; have c4 := x0.cell 4 rfl; (try clear d0 d1 d2 d3 d4); replace x8 := x8.below hb1; have d0 := x8.cell 0 rfl; have d1 := x8.cell 1 rfl; have d2 := x8.cell 2 rfl; have d3 := x8.cell 3 rfl; have d4 := x8.cell 4 rfl; replace hb := hb.trans (hb1.mono hb.size); clear hb1
      clear hE1
      go_wp2_with fail
      refine (hE2 _ q1 q2).mono ?_
      rintro e V4 ⟨rfl, hb1⟩
      replace q1 := q1.below hb1 (Nat.le_refl _); replace q2 := q2.below hb1 (Nat.le_refl _); replace r1 := r1.below hb1 (Nat.le_refl _); replace r2 := r2.below hb1 (Nat.le_refl _); (try clear c0 c1 c2 c3 c4); replace x0 := x0.below hb1; have c0 := x0.cell 0 rfl; have c1 := x0.cell 1 rfl; have c2 := x0.cell 2 rfl; have c3 := x0.cell 3 rfl; have c4 := x0.cell 4 rfl; (try clear d0 d1 d2 d3 d4); replace x8 := x8.below hb1; have d0 := x8.cell 0 rfl; have d1 := x8.cell 1 rfl; have d2 := x8.cell 2 rfl; have d3 := x8.cell 3 rfl; have d4 := x8.cell 4 rfl; replace hb := hb.trans (hb1.mono hb.size); clear hb1
      clear hE2
      go_wp2_with fail
      refine (SamePlays_eq aa ab ca cb c.plays _ r1 r2).mono ?_
      rintro e V5 ⟨rfl, hb1⟩
      replace q1 := q1.below hb1 (Nat.le_refl _); replace q2 := q2.below hb1 (Nat.le_refl _); replace x0 := x0.below hb1; replace x8 := x8.below hb1; replace hb := hb.trans (hb1.mono hb.size); clear hb1
      clear r1 r2 c0 c1 c2 c3 c4 d0 d1 d2 d3 d4
      go_wp2_with fail
      clear hff
      go_loopw [6, 19] (fun v6 v19 wx => ∃ i : Nat, i ≤ m ∧ v6 = .bool false ∧ v19 = .int .i64 (i : Int) ∧ Below V5.heap.size V5 wx) (fun _ v19 _ => m - (intOf v19).toNat)
      case atStart => exact ⟨0, Nat.zero_le _, rfl, rfl, Below.refl _ _⟩
      case round =>
        obtain ⟨i, hi, rfl, rfl, hb1⟩ := hrel
        have hbr := hb.trans (hb1.mono hb.size)
        replace q1 := q1.below hb1 (Nat.le_refl _); replace q2 := q2.below hb1 (Nat.le_refl _)
        replace x0 := x0.below hb1; replace x8 := x8.below hb1
        have c0 := x0.cell 0 rfl; have c1 := x0.cell 1 rfl; have c2 := x0.cell 2 rfl; have c3 := x0.cell 3 rfl; have c4 := x0.cell 4 rfl
        have d0 := x8.cell 0 rfl; have d1 := x8.cell 1 rfl; have d2 := x8.cell 2 rfl; have d3 := x8.cell 3 rfl; have d4 := x8.cell 4 rfl
        by_cases hlt : i < m
        · have hiI : (i : Int) < (m : Int) := by omega
          have hi0 : (0 : Int) ≤ (i : Int) := by omega
          have hsx0 : ((i : Int) + (bn : Int)) % (m : Int) = (((i + bn) % m : Nat) : Int) := by rw [Int.natCast_emod, Int.natCast_add]
          have hxm := Nat.mod_lt (i + bn) (show 0 < m by omega)
          obtain ⟨s, hs⟩ : ∃ s, s = srcO bn false m i := ⟨_, rfl⟩
          have hs' : s = (i + bn) % m := by rw [hs]; rfl
          have hsx : ((i : Int) + (bn : Int)) % (m : Int) = (s : Int) := by rw [hsx0, hs']
          have hsm : s < m := by omega
          have hsI : (s : Int) < (m : Int) := by omega
          have hs0 : (0 : Int) ≤ (s : Int) := by omega
          have hmn : ¬ m = 0 := by omega
          have hm1I : (1 : Int) ≤ (m : Int) := by omega
          have HSS := hid hs
          clear hs hs' hxm hsx0
          obtain ⟨⟨u, t⟩, hut⟩ : ∃ q, ps[s]? = some q := ⟨_, List.getElem?_eq_getElem (show s < ps.length by rw [← HM.out]; exact hsm)⟩
          have hut' : ps'[i]? = some (u, t) := by rw [HAT.out i (by rw [← HM.out]; exact hlt), ← HM.out, ← HSS.out]; exact hut
          obtain ⟨r, hw1, hw2⟩ := HWT.out i s u t hlt hsm hut hut'
          rw [HLEN.out, ← HN.out, ← HM.out] at hw2
          rw [← HN.out, ← HM.out] at hw1
          have hrr : (r != r) = false := by simp
          clear hut hut'
          go_wp2_with fail
          (try rw [hsx])
          refine (hw1 _ (hR.below hbr (Nat.le_refl _)) (hP.below hbr (Nat.le_refl _))).mono ?_
          rintro e W5 ⟨rfl, hb2⟩
          replace hb1 := hb1.trans (hb2.mono hb1.size)
          replace q1 := q1.below hb2 (Nat.le_refl _); replace q2 := q2.below hb2 (Nat.le_refl _)
          clear c0 c1 c2 c3 c4 d0 d1 d2 d3 d4
          replace x0 := x0.below hb2; replace x8 := x8.below hb2
          have d0 := x8.cell 0 rfl; have d1 := x8.cell 1 rfl; have d2 := x8.cell 2 rfl; have d3 := x8.cell 3 rfl; have d4 := x8.cell 4 rfl
          clear hb2
          go_wp2_with fail
          refine (hw2 _ q1 q2).mono ?_
          rintro e W6 ⟨rfl, hb2⟩
          replace hb1 := hb1.trans (hb2.mono hb1.size)
          clear hb2 d0 d1 d2 d3 d4 hw1 hw2
          go_wp2
          go_roundw
          case rel => exact ⟨i + 1, by omega, rfl, by go_num, hb1⟩
          case measure => simp [intOf]; omega
        · have hiI : (m : Int) ≤ (i : Int) := by omega
          obtain ⟨k, hk⟩ : ∃ k : Nat, k = c.steps := ⟨_, rfl⟩
          rw [← hk] at hS1 hS2
          have hkk : ((k : Int) == (k : Int)) = true := by simp
          replace hb := hbr
          clear hk hbr hb1
          go_wp2_with fail
          refine (hS1 _ (hR.below hb (Nat.le_refl _)) (hP.below hb (Nat.le_refl _))).mono ?_
          rintro e W5 ⟨hb1, rfl⟩
          replace q1 := q1.below hb1 (Nat.le_refl _); replace q2 := q2.below hb1 (Nat.le_refl _); replace x0 := x0.below hb1; (try clear d0 d1 d2 d3 d4); replace x8 := x8.below hb1; have d0 := x8.cell 0 rfl; have d1 := x8.cell 1 rfl; have d2 := x8.cell 2 rfl; have d3 := x8.cell 3 rfl; have d4 := x8.cell 4 rfl; replace hb := hb.trans (hb1.mono hb.size); clear hb1
          go_wp2_with fail
          refine (hS2 _ q1 q2).mono ?_
          rintro e W6 ⟨hb1, rfl⟩
          replace hb := hb.trans (hb1.mono hb.size)
          clear hb1 hS1 hS2 x0 x8 c0 c1 c2 c3 c4 d0 d1 d2 d3 d4 q1 q2
          go_wp2_with fail
          refine (works_any _).mono ?_
          rintro e V3 ⟨rfl, hb1⟩
          replace hb := hb.trans (hb1.mono hb.size)
          clear hb1
          go_wp2
          go_ret
          exact ⟨rfl, hb⟩

end Go.Proofs.Ytknaljghpfeikaa
