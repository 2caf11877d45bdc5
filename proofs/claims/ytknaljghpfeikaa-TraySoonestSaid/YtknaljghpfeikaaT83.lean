import Derived.Test.YtknaljghpfeikaaT82
import Derived.Test.YtknaljghpfeikaaT57
namespace Go.Proofs.Ytknaljghpfeikaa
open Go.RowKit

set_option maxRecDepth 100000 in
set_option maxHeartbeats 1000000 in
theorem rSoon_bad (ar ap : Option Addr) (cr cp : Nat) (rs ps : List (Int × Int)) (p0 way step : Int) (w : World) (hR : Prs w ar rs) (hP : Prs w ap ps) (r : Int) (hr : r = if trB rs ps p0 way step then (if ps.length = 0 then 3 else 0) else 20) (hr0 : r ≠ 0) (hm6 : ps.length ≤ 1000) :
    Calls Try.prog 49 #[.agg #[.slice ar rs.length cr, .int .i64 p0, .int .i64 way, .int .i64 step, .slice ap ps.length cp]] w fun e w' => e = .returned (.tuple #[.int .i64 0, .int .i64 r]) ∧ Below w.heap.size w w' := by
  have hen := fun V h1 h2 => rEnd_bad ar ap cr cp rs ps p0 way step V h1 h2 r hr hr0 hm6
  obtain ⟨W, hW, hb, hs, x0⟩ := boxes1 w #[.slice ar rs.length cr, .int .i64 p0, .int .i64 way, .int .i64 step, .slice ap ps.length cp] 25
  clear hs hr
  have c0 := x0.cell 0 rfl; have c1 := x0.cell 1 rfl; have c2 := x0.cell 2 rfl; have c3 := x0.cell 3 rfl; have c4 := x0.cell 4 rfl
  go_enter Try.func49, Try.ntmps49
  go_wp2_with fail
  refine (hen _ (hR.below hb (Nat.le_refl _)) (hP.below hb (Nat.le_refl _))).mono ?_
  rintro e W1 ⟨rfl, hb1⟩
  clear hW hen
  (try clear c0 c1 c2 c3 c4); replace x0 := x0.below hb1; have c0 := x0.cell 0 rfl; have c1 := x0.cell 1 rfl; have c2 := x0.cell 2 rfl; have c3 := x0.cell 3 rfl; have c4 := x0.cell 4 rfl; replace hb := hb.trans (hb1.mono hb.size); clear hb1
  clear x0 c0 c1 c2 c3 c4
  go_wp2
  go_ret2
  exact ⟨rfl, hb⟩
/-- The call of endOf behind one of Arranged, of an order. -/
theorem arr_end (ar ap : Option Addr) (cr cp : Nat) (rs ps : List (Int × Int)) (p0 way step : Int) {T : Tr} (hT : IsTr T rs ps p0 way step) (hl6 : rs.length ≤ 4) (hp12 : ps.length ≤ 12) {os : List Int} (hord : isOrd rs.length os = true) (ao : Option Addr) (co : Nat) (V : World) (hR : Prs V ar rs) (hP : Prs V ap ps) (hO : Ints V ao os) :
    Calls Try.prog 35 #[.agg #[.slice ar rs.length cr, .int .i64 p0, .int .i64 way, .int .i64 step, .slice ap ps.length cp], .slice ao os.length co] V fun e V1 => Below V.heap.size V V1 ∧ ∃ (a1 a2 : Option Addr) (c1 c2 : Nat), e = .returned (.agg #[.slice a1 (ordR rs os).length c1, .int .i64 p0, .int .i64 way, .int .i64 step, .slice a2 (ordP os ps).length c2]) ∧ Prs V1 a1 (ordR rs os) ∧ Prs V1 a2 (ordP os ps) ∧
      ∀ V2, Below V1.heap.size V1 V2 → Calls Try.prog 69 #[.agg #[.slice a1 (ordR rs os).length c1, .int .i64 p0, .int .i64 way, .int .i64 step, .slice a2 (ordP os ps).length c2]] V2 fun e' V3 => e' = .returned (.int .i64 (endO T os)) ∧ Below V2.heap.size V2 V3 := by
  obtain ⟨hall, hol⟩ := isOrd_iff.1 hord
  have hn1 := hT.hv.n1
  rw [hT.T1] at hn1
  have hper := perm_in hn1 hl6 hol hall
  have hos := (perms_ok (n := (rs.length : Int)) (by omega) rs.length 0 (idL rs.length) (idL_mem _) os hper).2
  have hTo := ordT_is hT hol hos
  have hbo : ∀ x ∈ ordR rs os, -9223372036854775808 ≤ x.1 ∧ x.1 ≤ 9223372036854775807 ∧ -9223372036854775808 ≤ x.2 ∧ x.2 ≤ 9223372036854775807 := fun x hx => by have := hTo.hv.rc x (by rw [hTo.T1]; exact hx); omega
  have hbp : ∀ x ∈ ordP os ps, -9223372036854775808 ≤ x.1 ∧ x.1 ≤ 9223372036854775807 ∧ -9223372036854775808 ≤ x.2 ∧ x.2 ≤ 9223372036854775807 := fun x hx => by have h1 := hTo.hv.pr x (by rw [hTo.T2]; exact hx); have h2 := hTo.hv.n6; omega
  have hps : ∀ p ∈ ps, 0 ≤ p.1 ∧ p.1 < 2 * (rs.length : Int) := fun p hp => by have h1 := hT.hv.pr p (by rw [hT.T2]; exact hp); rw [hT.T1] at h1; omega
  refine (arranged_any ao co os ar ap cr cp rs ps p0 way step V hR hP hO (by omega) hos hol hall hps (by omega) hbo hbp).mono fun e V1 h => ?_
  obtain ⟨h1, a1, a2, c1, c2, h2, h3, h4⟩ := h
  exact ⟨h1, a1, a2, c1, c2, h2, h3, h4, fun V2 hb => endOf_any a1 a2 c1 c2 (ordR rs os) (ordP os ps) p0 way step V2 (h3.below hb (Nat.le_refl _)) (h4.below hb (Nat.le_refl _)) (ordT T os) hTo (runM (ordT T os) maxI) rfl⟩
set_option maxRecDepth 100000 in
set_option maxHeartbeats 4000000 in
theorem rSoon_ok (ar ap : Option Addr) (cr cp : Nat) (rs ps : List (Int × Int)) (p0 way step : Int) (w : World) (hR : Prs w ar rs) (hP : Prs w ap ps) (hv : trB rs ps p0 way step = true) (h0 : ps.length ≠ 0) (hp12 : ps.length ≤ 12) (h4 : rs.length ≤ 4) (T : Tr) (hT : IsTr T rs ps p0 way step) (b : Int) (hbe : b = (bestM T maxI).2) :
    Calls Try.prog 49 #[.agg #[.slice ar rs.length cr, .int .i64 p0, .int .i64 way, .int .i64 step, .slice ap ps.length cp]] w fun e w' => e = .returned (.tuple #[.int .i64 b, .int .i64 0]) ∧ Below w.heap.size w w' := by
  have hn1 := hT.hv.n1
  rw [hT.T1] at hn1
  have hen := fun V h1 h2 => rEnd_ok ar ap cr cp rs ps p0 way step V h1 h2 hv h0 (by omega) T hT _ rfl
  obtain ⟨LL, hLL⟩ : ∃ LL, LL = ordsR rs.length rs.length [] := ⟨_, rfl⟩
  have hmin := min_all hT h4 (fun e => h0 (by rw [e]; rfl))
  rw [← hLL, ← hbe] at hmin
  obtain ⟨f0, hf0⟩ : ∃ f0, f0 = (runM T maxI).fin := ⟨_, rfl⟩
  rw [← hf0] at hmin hen
  have hordl := fun (V : World) => orders_rec rs.length h4 rs.length [] none 0 V V.heap.size ⟨by simp, fun x hx => by simp at hx, fun i hi => by simp at hi⟩ (fun x hx => by simp at hx) (by simp) (Nat.le_refl _) (fun ad e => by cases e)
  rw [← hLL] at hordl
  have hln : LL.length ≤ 256 := by
    rw [hLL]
    exact Nat.le_trans (ordsR_len rs.length rs.length []) (Nat.le_trans (Nat.pow_le_pow_left h4 _) (Nat.pow_le_pow_right (n := 4) (by omega) h4))
  have hall : ∀ os ∈ LL, isOrd rs.length os = true := by rw [hLL]; exact (oall hn1 h4).1
  have hae := fun os ho ao co V h1 h2 h3 => arr_end ar ap cr cp rs ps p0 way step hT h4 hp12 (os := os) (hall os ho) ao co V h1 h2 h3
  have hol : ∀ os ∈ LL, os.length = rs.length := fun os ho => (isOrd_iff.1 (hall os ho)).2
  obtain ⟨n, hn⟩ : ∃ n, n = rs.length := ⟨_, rfl⟩
  obtain ⟨m, hm⟩ : ∃ m, m = ps.length := ⟨_, rfl⟩
  rw [← hn] at hen hordl hae hol h4 ⊢
  rw [← hm] at hen hae ⊢
  obtain ⟨L, hL⟩ : ∃ L, L = LL.length := ⟨_, rfl⟩
  unfold OrdsP at hordl
  rw [← hL] at hordl hln
  have HL := hid hL; have HMIN := hid hmin; have HAE := hid hae; have HOL := hid hol
  clear hL hmin hae hol hn hm hf0 hLL hall hbe hT hv h0 hn1
  have hLI : (L : Int) ≤ 256 := by omega
  have hnI : (n : Int) ≤ 4 := by omega
  obtain ⟨W, hW, hb, hs, x0⟩ := boxes1 w #[.slice ar n cr, .int .i64 p0, .int .i64 way, .int .i64 step, .slice ap m cp] 25
  clear hs
  have c0 := x0.cell 0 rfl; have c1 := x0.cell 1 rfl; have c2 := x0.cell 2 rfl; have c3 := x0.cell 3 rfl; have c4 := x0.cell 4 rfl
  go_enter Try.func49, Try.ntmps49
  go_wp2_with fail
  refine (hen _ (hR.below hb (Nat.le_refl _)) (hP.below hb (Nat.le_refl _))).mono ?_
  rintro e W1 ⟨rfl, hb1⟩
  clear hW hen
  (try clear c0 c1 c2 c3 c4); replace x0 := x0.below hb1; have c0 := x0.cell 0 rfl; have c1 := x0.cell 1 rfl; have c2 := x0.cell 2 rfl; have c3 := x0.cell 3 rfl; have c4 := x0.cell 4 rfl; replace hb := hb.trans (hb1.mono hb.size); clear hb1
  go_wp2_with fail
  refine (hordl _).mono ?_
  rintro e W2 ⟨hb1, al, cl, vs, rfl, hown, hrw⟩
  clear hordl
  (try clear c0 c1 c2 c3 c4); replace x0 := x0.below hb1; have c0 := x0.cell 0 rfl; have c1 := x0.cell 1 rfl; have c2 := x0.cell 2 rfl; have c3 := x0.cell 3 rfl; have c4 := x0.cell 4 rfl; replace hb := hb.trans (hb1.mono hb.size); clear hb1
  have hvl := hrw.len
  have HVL := hid hvl
  clear hvl
  clear c0 c1 c2 c3 c4
  go_wp2
  go_loopw [4, 7] (fun v4 v7 wr => ∃ (i : Nat) (g : Int), i ≤ L ∧ v4 = .int .i64 g ∧ v7 = .int .i64 (i : Int) ∧ Below W2.heap.size W2 wr ∧ Hid (g = (LL.take i).foldl (minO T) f0)) (fun _ v7 _ => L - (intOf v7).toNat)
  case atStart => exact ⟨0, f0, Nat.zero_le _, rfl, rfl, Below.refl _ _, hid rfl⟩
  case round =>
    obtain ⟨i, g, hi, rfl, rfl, hb1, HG⟩ := hrel
    by_cases hlt : i < L
    · have hiI : (i : Int) < (L : Int) := by omega
      have hi0 : (0 : Int) ≤ (i : Int) := by omega
      obtain ⟨os, hos⟩ : ∃ os, LL[i]? = some os := ⟨_, List.getElem?_eq_getElem (show i < LL.length by rw [← HL.out]; exact hlt)⟩
      obtain ⟨x, hx, ao, co, rfl, hO, _⟩ := hrw.at i os hos
      have hmo := List.mem_of_getElem? hos
      rw [HOL.out os hmo] at hx
      obtain ⟨gl, rfl⟩ : ∃ gl, al = some ⟨gl, 0, none⟩ := by
        obtain ⟨gl, cap, e⟩ := Go.Joins.ownsRow_form hown (by omega)
        simp only [Value.slice.injEq, true_and] at e
        exact ⟨gl, e.1⟩
      have hcell := hown.cellAt i (by omega)
      rw [hx] at hcell
      have hbd := (Below.refl wr.heap.size wr).drew
      have hbr := hb.trans (hb1.mono hb.size)
      have hbb := hbr.trans (hbd.mono hbr.size)
      have hb12 := hb1.trans (hbd.mono hb1.size)
      have x0d := (x0.below hb1).below hbd
      have hcd := Below.keep hb12 hcell
      have hOd := hO.below hb12 (Nat.le_refl _)
      have hae := fun V h1 h2 h3 => HAE.out os hmo ao co V h1 h2 h3
      have hoo := HOL.out os hmo
      rw [hoo] at hae
      have hgs : (LL.take (i + 1)).foldl (minO T) f0 = min g (endO T os) := by rw [take_snocI hos, List.foldl_append, ← HG.out]; rfl
      obtain ⟨q, hq⟩ : ∃ q, q = endO T os := ⟨_, rfl⟩
      rw [← hq] at hgs hae
      have HS := hid hgs
      clear hgs hq hoo hos hx hcell hO hmo hbd
      go_upto_region 8 with fail
      refine wp_region_head 8 (fun w' => Bx w' w.heap.size #[.slice ar n cr, .int .i64 p0, .int .i64 way, .int .i64 step, .slice ap m cp] 25 ∧ w'.cell? ⟨gl, i, none⟩ = some (.slice ao n co)) (by kernel_rfl) rfl ?_
      generalize wr.drew = Y0 at *
      have S0 := And.intro x0d hcd
      refine HeadAt.take (i := 0) (.int .i64 g) rfl (by kernel_rfl) (.inl ⟨rfl, fun _ _ => by simp [go_sem]⟩) S0 ?_
      refine HeadAt.take (i := 1) (.agg #[.slice ar n cr, .int .i64 p0, .int .i64 way, .int .i64 step, .slice ap m cp]) rfl (by kernel_rfl) (.inl ⟨rfl, fun w' z => ?_⟩) S0 ?_
      · (have z0 := z.1.cell 0 rfl; have z1 := z.1.cell 1 rfl; have z2 := z.1.cell 2 rfl; have z3 := z.1.cell 3 rfl; have z4 := z.1.cell 4 rfl; simp [go_sem, z0, z1, z2, z3, z4])
      refine HeadAt.take (i := 2) (.slice (some ⟨gl, 0, none⟩) L cl) rfl (by kernel_rfl) (.inl ⟨rfl, fun _ _ => by simp [go_sem]⟩) S0 ?_
      simp only [Act.put, List.getElem_toArray, List.getElem_cons_succ, List.getElem_cons_zero, List.setIfInBounds_toArray, List.set_cons_succ, List.set_cons_zero]
      refine HeadAt.take (i := 3) (.int .i64 (i : Int)) rfl (by kernel_rfl) (.inl ⟨rfl, fun _ _ => by simp [go_sem]⟩) S0 ?_
      refine HeadAt.take (i := 4) (.pointer (some ⟨gl, i, none⟩)) rfl (by kernel_rfl) (.inl ⟨rfl, fun w' z => ?_⟩) S0 ?_
      · (simp [go_sem, hiI, hi0])
      refine HeadAt.take (i := 5) (.slice ao n co) rfl (by kernel_rfl) (.inl ⟨rfl, fun w' z => ?_⟩) S0 ?_
      · (simp [go_sem, z.2])
      simp only [Act.put, List.getElem_toArray, List.getElem_cons_succ, List.getElem_cons_zero, List.setIfInBounds_toArray, List.set_cons_succ, List.set_cons_zero]
      refine HeadAt.one (i := 6) rfl (by kernel_rfl) ?_
      generalize hK : Upto _ _ = K0
      (try simp only [List.getElem_toArray, List.getElem_cons_succ, List.getElem_cons_zero])
      go_wp2_with fail
      refine (hae _ (hR.below hbb (Nat.le_refl _)) (hP.below hbb (Nat.le_refl _)) hOd).mono ?_
      rintro e V1 ⟨hb2, a1, a2, c1', c2', rfl, _, _, hE⟩
      replace S0 := And.intro (S0.1.below hb2) (Below.keep hb2 S0.2)
      clear hae hcd x0d hOd hbb
      replace hb12 := hb12.trans (hb2.mono hb12.size)
      go_wp2_with fail
      subst hK
      refine ⟨S0, ?_⟩
      refine HeadAt.one (i := 7) rfl (by kernel_rfl) ?_
      generalize hK : Upto _ _ = K0
      (try simp only [List.getElem_toArray, List.getElem_cons_succ, List.getElem_cons_zero])
      go_wp2_with fail
      refine (hE _ (Below.refl _ _)).mono ?_
      rintro e V2 ⟨rfl, hb3⟩
      replace S0 := And.intro (S0.1.below hb3) (Below.keep hb3 S0.2)
      have hbf := hb12.trans (hb3.mono hb12.size)
      clear hE hb2 hb3 hb12
      go_wp2_with fail
      subst hK
      refine ⟨S0, ?_⟩
      refine HeadAt.done (by kernel_rfl) ?_
      (try simp only [List.drop_succ_cons, List.drop_zero])
      clear S0
      go_wp2_with fail
      refine NoPanic.normal ?_
      go_wp2_with fail
      go_roundw
      case rel => exact ⟨i + 1, min g q, by omega, rfl, by go_num, hbf, hid HS.out.symm⟩
      case measure => simp [intOf]; omega
    · have hiI : (L : Int) ≤ (i : Int) := by omega
      have HF := hid (show g = b by rw [HG.out, List.take_of_length_le (by rw [← HL.out]; omega)]; exact HMIN.out)
      go_wp2
      go_ret2
      exact ⟨by rw [HF.out]; rfl, hb.trans (hb1.mono hb.size)⟩
end Go.Proofs.Ytknaljghpfeikaa
