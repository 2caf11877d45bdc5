import Derived.Test.YtknaljghpfeikaaM17
import Derived.Test.YtknaljghpfeikaaT66
namespace Go.Proofs.Ytknaljghpfeikaa
open Go.RowKit

set_option maxRecDepth 100000 in
set_option maxHeartbeats 1000000 in
theorem it_arg0 (ar ap : Option Addr) (cr cp : Nat) (rs ps : List (Int × Int)) (p0 way step : Int) (x by' la : Int) (w : World) (hlr : rs.length ≤ 9223372036854775807) (hlp : ps.length ≤ 9223372036854775807) (hR : rs.length ≤ 1000 → Prs w ar rs) (hP : ps.length ≤ 1000 → Prs w ap ps) (hv : rdB rs ps p0 way step = false) :
    Calls Try.prog 9 #[.agg #[.slice ar rs.length cr, .int .i64 p0, .int .i64 way, .int .i64 step, .slice ap ps.length cp], .int .i64 x, .agg #[.int .i64 by', .int .i64 la]] w (WorksP w) := by
  obtain ⟨W, hW, hb, hs, x0, x5⟩ := boxes2 w #[.slice ar rs.length cr, .int .i64 p0, .int .i64 way, .int .i64 step, .slice ap ps.length cp] 25 #[.int .i64 by', .int .i64 la] 56
  clear hs
  have hrd := fun V h1 h2 => ready_any ar ap cr cp rs ps p0 way step V hlr hlp h1 h2
  rw [hv] at hrd
  have HP := hid hP; have HR := hid hR
  clear hR hP hlr hlp hv
  go_enter Try.func9, Try.ntmps9
  go_upto_region 1 with fail
  clear hW
  have hbd := (Below.refl W.heap.size W).drew
  have S0 := x5.below hbd
  replace x0 := x0.below hbd
  replace hb := hb.trans (hbd.mono hb.size)
  clear hbd x5
  refine wp_region_head 5 (fun w' => Bx w' (w.heap.size + 1) #[.int .i64 by', .int .i64 la] 56) (by kernel_rfl) rfl ?_
  generalize W.drew = Y0 at *
  refine HeadAt.take (i := 0) (.pointer (some ⟨w.heap.size + 1, 0, none⟩)) rfl (by kernel_rfl) (.inl ⟨rfl, fun _ _ => by simp [go_sem]⟩) S0 ?_
  refine HeadAt.take (i := 1) (.int .i64 by') rfl (by kernel_rfl) (.inl ⟨rfl, fun w' z => ?_⟩) S0 ?_
  · (have z0 := z.cell 0 rfl; simp [go_sem, z0])
  refine HeadAt.take (i := 2) (.pointer (some ⟨w.heap.size + 1, 1, none⟩)) rfl (by kernel_rfl) (.inl ⟨rfl, fun _ _ => by simp [go_sem]⟩) S0 ?_
  refine HeadAt.take (i := 3) (.int .i64 la) rfl (by kernel_rfl) (.inl ⟨rfl, fun w' z => ?_⟩) S0 ?_
  · (have z0 := z.cell 1 rfl; simp [go_sem, z0])
  simp only [Act.put, List.getElem_toArray, List.getElem_cons_succ, List.getElem_cons_zero, List.setIfInBounds_toArray, List.set_cons_succ, List.set_cons_zero]
  refine HeadAt.take (i := 4) (.int .i64 by') rfl (by kernel_rfl) (.inl ⟨rfl, fun _ _ => by simp [go_sem]⟩) S0 ?_
  refine HeadAt.done (by kernel_rfl) ?_
  (try simp only [Act.put, List.drop_succ_cons, List.drop_zero, List.getElem_toArray, List.getElem_cons_succ, List.getElem_cons_zero])
  clear S0
  have c0 := x0.cell 0 rfl; have c1 := x0.cell 1 rfl; have c2 := x0.cell 2 rfl; have c3 := x0.cell 3 rfl; have c4 := x0.cell 4 rfl
  go_wp2_with fail
  refine NoPanic.normal ?_
  go_wp2_with fail
  refine (hrd _ (fun h => (HR.out h).below hb (Nat.le_refl _)) (fun h => (HP.out h).below hb (Nat.le_refl _))).mono ?_
  rintro e W1 ⟨rfl, hb1⟩
  clear hrd
  (try clear c0 c1 c2 c3 c4); replace x0 := x0.below hb1; have c0 := x0.cell 0 rfl; have c1 := x0.cell 1 rfl; have c2 := x0.cell 2 rfl; have c3 := x0.cell 3 rfl; have c4 := x0.cell 4 rfl; replace hb := hb.trans (hb1.mono hb.size); clear hb1
  go_wp2_with fail
  refine (works_any _).mono ?_
  rintro e V3 ⟨rfl, hb1⟩
  replace hb := hb.trans (hb1.mono hb.size)
  clear hb1
  clear x0 c0 c1 c2 c3 c4
  go_wp2
  go_ret
  exact ⟨rfl, hb⟩
set_option maxRecDepth 100000 in
set_option maxHeartbeats 1000000 in
theorem it_arg1 (ar ap : Option Addr) (cr cp : Nat) (rs ps : List (Int × Int)) (p0 way step : Int) (x by' la : Int) (w : World) (hR : Prs w ar rs) (hP : Prs w ap ps) (hl : rs.length ≤ 40 ∧ ps.length ≤ 40) (hv : rdB rs ps p0 way step = true) (h12 : 12 ≤ ps.length) :
    Calls Try.prog 9 #[.agg #[.slice ar rs.length cr, .int .i64 p0, .int .i64 way, .int .i64 step, .slice ap ps.length cp], .int .i64 x, .agg #[.int .i64 by', .int .i64 la]] w (WorksP w) := by
  obtain ⟨W, hW, hb, hs, x0, x5⟩ := boxes2 w #[.slice ar rs.length cr, .int .i64 p0, .int .i64 way, .int .i64 step, .slice ap ps.length cp] 25 #[.int .i64 by', .int .i64 la] 56
  clear hs
  have hrd := fun V h1 h2 => ready_any ar ap cr cp rs ps p0 way step V (by omega) (by omega) (fun _ => h1) (fun _ => h2)
  rw [hv] at hrd
  have h12I : (12 : Int) ≤ (ps.length : Int) := by omega
  clear hv
  go_enter Try.func9, Try.ntmps9
  go_upto_region 1 with fail
  clear hW
  have hbd := (Below.refl W.heap.size W).drew
  have S0 := x5.below hbd
  replace x0 := x0.below hbd
  replace hb := hb.trans (hbd.mono hb.size)
  clear hbd x5
  refine wp_region_head 5 (fun w' => Bx w' (w.heap.size + 1) #[.int .i64 by', .int .i64 la] 56) (by kernel_rfl) rfl ?_
  generalize W.drew = Y0 at *
  refine HeadAt.take (i := 0) (.pointer (some ⟨w.heap.size + 1, 0, none⟩)) rfl (by kernel_rfl) (.inl ⟨rfl, fun _ _ => by simp [go_sem]⟩) S0 ?_
  refine HeadAt.take (i := 1) (.int .i64 by') rfl (by kernel_rfl) (.inl ⟨rfl, fun w' z => ?_⟩) S0 ?_
  · (have z0 := z.cell 0 rfl; simp [go_sem, z0])
  refine HeadAt.take (i := 2) (.pointer (some ⟨w.heap.size + 1, 1, none⟩)) rfl (by kernel_rfl) (.inl ⟨rfl, fun _ _ => by simp [go_sem]⟩) S0 ?_
  refine HeadAt.take (i := 3) (.int .i64 la) rfl (by kernel_rfl) (.inl ⟨rfl, fun w' z => ?_⟩) S0 ?_
  · (have z0 := z.cell 1 rfl; simp [go_sem, z0])
  simp only [Act.put, List.getElem_toArray, List.getElem_cons_succ, List.getElem_cons_zero, List.setIfInBounds_toArray, List.set_cons_succ, List.set_cons_zero]
  refine HeadAt.take (i := 4) (.int .i64 by') rfl (by kernel_rfl) (.inl ⟨rfl, fun _ _ => by simp [go_sem]⟩) S0 ?_
  refine HeadAt.done (by kernel_rfl) ?_
  (try simp only [Act.put, List.drop_succ_cons, List.drop_zero, List.getElem_toArray, List.getElem_cons_succ, List.getElem_cons_zero])
  clear S0
  have c0 := x0.cell 0 rfl; have c1 := x0.cell 1 rfl; have c2 := x0.cell 2 rfl; have c3 := x0.cell 3 rfl; have c4 := x0.cell 4 rfl
  go_wp2_with fail
  refine NoPanic.normal ?_
  go_wp2_with fail
  refine (hrd _ (hR.below hb (Nat.le_refl _)) (hP.below hb (Nat.le_refl _))).mono ?_
  rintro e W1 ⟨rfl, hb1⟩
  clear hrd
  (try clear c0 c1 c2 c3 c4); replace x0 := x0.below hb1; have c0 := x0.cell 0 rfl; have c1 := x0.cell 1 rfl; have c2 := x0.cell 2 rfl; have c3 := x0.cell 3 rfl; have c4 := x0.cell 4 rfl; replace hb := hb.trans (hb1.mono hb.size); clear hb1
  go_wp2_with fail
  refine (works_any _).mono ?_
  rintro e V3 ⟨rfl, hb1⟩
  replace hb := hb.trans (hb1.mono hb.size)
  clear hb1
  clear x0 c0 c1 c2 c3 c4
  go_wp2
  go_ret
  exact ⟨rfl, hb⟩

set_option maxRecDepth 100000 in
set_option maxHeartbeats 1000000 in
theorem it_arg2 (ar ap : Option Addr) (cr cp : Nat) (rs ps : List (Int × Int)) (p0 way step : Int) (x by' la : Int) (w : World) (hR : Prs w ar rs) (hP : Prs w ap ps) (hl : rs.length ≤ 40 ∧ ps.length ≤ 40) (hv : rdB rs ps p0 way step = true) (h12 : ps.length < 12) (hx : inR 0 x (2 * (rs.length : Int) - 1) = false) (_h1 : True) (_h2 : True) (_h3 : True) (_h4 : True) :
    Calls Try.prog 9 #[.agg #[.slice ar rs.length cr, .int .i64 p0, .int .i64 way, .int .i64 step, .slice ap ps.length cp], .int .i64 x, .agg #[.int .i64 by', .int .i64 la]] w (WorksP w) := by
  obtain ⟨W, hW, hb, hs, x0, x5⟩ := boxes2 w #[.slice ar rs.length cr, .int .i64 p0, .int .i64 way, .int .i64 step, .slice ap ps.length cp] 25 #[.int .i64 by', .int .i64 la] 56
  clear hs
  have hrd := fun V h1 h2 => ready_any ar ap cr cp rs ps p0 way step V (by omega) (by omega) (fun _ => h1) (fun _ => h2)
  rw [hv] at hrd
  have hsd := fun V => isSide_29 ar ap cr cp rs ps p0 way step x V (by omega)
  rw [hx] at hsd
  have h12I : (ps.length : Int) < 12 := by omega
  clear hv hx
  go_enter Try.func9, Try.ntmps9
  go_upto_region 1 with fail
  clear hW
  have hbd := (Below.refl W.heap.size W).drew
  have S0 := x5.below hbd
  replace x0 := x0.below hbd
  replace hb := hb.trans (hbd.mono hb.size)
  clear hbd x5
  refine wp_region_head 5 (fun w' => Bx w' (w.heap.size + 1) #[.int .i64 by', .int .i64 la] 56) (by kernel_rfl) rfl ?_
  generalize W.drew = Y0 at *
  refine HeadAt.take (i := 0) (.pointer (some ⟨w.heap.size + 1, 0, none⟩)) rfl (by kernel_rfl) (.inl ⟨rfl, fun _ _ => by simp [go_sem]⟩) S0 ?_
  refine HeadAt.take (i := 1) (.int .i64 by') rfl (by kernel_rfl) (.inl ⟨rfl, fun w' z => ?_⟩) S0 ?_
  · (have z0 := z.cell 0 rfl; simp [go_sem, z0])
  refine HeadAt.take (i := 2) (.pointer (some ⟨w.heap.size + 1, 1, none⟩)) rfl (by kernel_rfl) (.inl ⟨rfl, fun _ _ => by simp [go_sem]⟩) S0 ?_
  refine HeadAt.take (i := 3) (.int .i64 la) rfl (by kernel_rfl) (.inl ⟨rfl, fun w' z => ?_⟩) S0 ?_
  · (have z0 := z.cell 1 rfl; simp [go_sem, z0])
  simp only [Act.put, List.getElem_toArray, List.getElem_cons_succ, List.getElem_cons_zero, List.setIfInBounds_toArray, List.set_cons_succ, List.set_cons_zero]
  refine HeadAt.take (i := 4) (.int .i64 by') rfl (by kernel_rfl) (.inl ⟨rfl, fun _ _ => by simp [go_sem]⟩) S0 ?_
  refine HeadAt.done (by kernel_rfl) ?_
  (try simp only [Act.put, List.drop_succ_cons, List.drop_zero, List.getElem_toArray, List.getElem_cons_succ, List.getElem_cons_zero])
  clear S0
  have c0 := x0.cell 0 rfl; have c1 := x0.cell 1 rfl; have c2 := x0.cell 2 rfl; have c3 := x0.cell 3 rfl; have c4 := x0.cell 4 rfl
  go_wp2_with fail
  refine NoPanic.normal ?_
  go_wp2_with fail
  refine (hrd _ (hR.below hb (Nat.le_refl _)) (hP.below hb (Nat.le_refl _))).mono ?_
  rintro e W1 ⟨rfl, hb1⟩
  clear hrd
  (try clear c0 c1 c2 c3 c4); replace x0 := x0.below hb1; have c0 := x0.cell 0 rfl; have c1 := x0.cell 1 rfl; have c2 := x0.cell 2 rfl; have c3 := x0.cell 3 rfl; have c4 := x0.cell 4 rfl; replace hb := hb.trans (hb1.mono hb.size); clear hb1
  go_wp2_with fail
  refine (hsd _).mono ?_
  rintro e W2 ⟨rfl, hb1⟩
  clear hsd
  (try clear c0 c1 c2 c3 c4); replace x0 := x0.below hb1; have c0 := x0.cell 0 rfl; have c1 := x0.cell 1 rfl; have c2 := x0.cell 2 rfl; have c3 := x0.cell 3 rfl; have c4 := x0.cell 4 rfl; replace hb := hb.trans (hb1.mono hb.size); clear hb1
  go_wp2_with fail
  refine (works_any _).mono ?_
  rintro e V3 ⟨rfl, hb1⟩
  replace hb := hb.trans (hb1.mono hb.size)
  clear hb1
  clear x0 c0 c1 c2 c3 c4
  go_wp2
  go_ret
  exact ⟨rfl, hb⟩

set_option maxRecDepth 100000 in
set_option maxHeartbeats 1000000 in
theorem it_arg3 (ar ap : Option Addr) (cr cp : Nat) (rs ps : List (Int × Int)) (p0 way step : Int) (x by' la : Int) (w : World) (hR : Prs w ar rs) (hP : Prs w ap ps) (hl : rs.length ≤ 40 ∧ ps.length ≤ 40) (hv : rdB rs ps p0 way step = true) (h12 : ps.length < 12) (hx : inR 0 x (2 * (rs.length : Int) - 1) = true) (h1 : by' < 0) (_h2 : True) (_h3 : True) (_h4 : True) :
    Calls Try.prog 9 #[.agg #[.slice ar rs.length cr, .int .i64 p0, .int .i64 way, .int .i64 step, .slice ap ps.length cp], .int .i64 x, .agg #[.int .i64 by', .int .i64 la]] w (WorksP w) := by
  obtain ⟨W, hW, hb, hs, x0, x5⟩ := boxes2 w #[.slice ar rs.length cr, .int .i64 p0, .int .i64 way, .int .i64 step, .slice ap ps.length cp] 25 #[.int .i64 by', .int .i64 la] 56
  clear hs
  have hrd := fun V h1 h2 => ready_any ar ap cr cp rs ps p0 way step V (by omega) (by omega) (fun _ => h1) (fun _ => h2)
  rw [hv] at hrd
  have hsd := fun V => isSide_29 ar ap cr cp rs ps p0 way step x V (by omega)
  rw [hx] at hsd
  have h12I : (ps.length : Int) < 12 := by omega
  clear hv hx
  go_enter Try.func9, Try.ntmps9
  go_upto_region 1 with fail
  clear hW
  have hbd := (Below.refl W.heap.size W).drew
  have S0 := x5.below hbd
  replace x0 := x0.below hbd
  replace hb := hb.trans (hbd.mono hb.size)
  clear hbd x5
  refine wp_region_head 5 (fun w' => Bx w' (w.heap.size + 1) #[.int .i64 by', .int .i64 la] 56) (by kernel_rfl) rfl ?_
  generalize W.drew = Y0 at *
  refine HeadAt.take (i := 0) (.pointer (some ⟨w.heap.size + 1, 0, none⟩)) rfl (by kernel_rfl) (.inl ⟨rfl, fun _ _ => by simp [go_sem]⟩) S0 ?_
  refine HeadAt.take (i := 1) (.int .i64 by') rfl (by kernel_rfl) (.inl ⟨rfl, fun w' z => ?_⟩) S0 ?_
  · (have z0 := z.cell 0 rfl; simp [go_sem, z0])
  refine HeadAt.take (i := 2) (.pointer (some ⟨w.heap.size + 1, 1, none⟩)) rfl (by kernel_rfl) (.inl ⟨rfl, fun _ _ => by simp [go_sem]⟩) S0 ?_
  refine HeadAt.take (i := 3) (.int .i64 la) rfl (by kernel_rfl) (.inl ⟨rfl, fun w' z => ?_⟩) S0 ?_
  · (have z0 := z.cell 1 rfl; simp [go_sem, z0])
  simp only [Act.put, List.getElem_toArray, List.getElem_cons_succ, List.getElem_cons_zero, List.setIfInBounds_toArray, List.set_cons_succ, List.set_cons_zero]
  refine HeadAt.take (i := 4) (.int .i64 by') rfl (by kernel_rfl) (.inl ⟨rfl, fun _ _ => by simp [go_sem]⟩) S0 ?_
  refine HeadAt.done (by kernel_rfl) ?_
  (try simp only [Act.put, List.drop_succ_cons, List.drop_zero, List.getElem_toArray, List.getElem_cons_succ, List.getElem_cons_zero])
  clear S0
  have c0 := x0.cell 0 rfl; have c1 := x0.cell 1 rfl; have c2 := x0.cell 2 rfl; have c3 := x0.cell 3 rfl; have c4 := x0.cell 4 rfl
  go_wp2_with fail
  refine NoPanic.normal ?_
  go_wp2_with fail
  refine (hrd _ (hR.below hb (Nat.le_refl _)) (hP.below hb (Nat.le_refl _))).mono ?_
  rintro e W1 ⟨rfl, hb1⟩
  clear hrd
  (try clear c0 c1 c2 c3 c4); replace x0 := x0.below hb1; have c0 := x0.cell 0 rfl; have c1 := x0.cell 1 rfl; have c2 := x0.cell 2 rfl; have c3 := x0.cell 3 rfl; have c4 := x0.cell 4 rfl; replace hb := hb.trans (hb1.mono hb.size); clear hb1
  go_wp2_with fail
  refine (hsd _).mono ?_
  rintro e W2 ⟨rfl, hb1⟩
  clear hsd
  (try clear c0 c1 c2 c3 c4); replace x0 := x0.below hb1; have c0 := x0.cell 0 rfl; have c1 := x0.cell 1 rfl; have c2 := x0.cell 2 rfl; have c3 := x0.cell 3 rfl; have c4 := x0.cell 4 rfl; replace hb := hb.trans (hb1.mono hb.size); clear hb1
  go_wp2_with fail
  refine (works_any _).mono ?_
  rintro e V3 ⟨rfl, hb1⟩
  replace hb := hb.trans (hb1.mono hb.size)
  clear hb1
  clear x0 c0 c1 c2 c3 c4
  go_wp2
  go_ret
  exact ⟨rfl, hb⟩

set_option maxRecDepth 100000 in
set_option maxHeartbeats 1000000 in
theorem it_arg4 (ar ap : Option Addr) (cr cp : Nat) (rs ps : List (Int × Int)) (p0 way step : Int) (x by' la : Int) (w : World) (hR : Prs w ar rs) (hP : Prs w ap ps) (hl : rs.length ≤ 40 ∧ ps.length ≤ 40) (hv : rdB rs ps p0 way step = true) (h12 : ps.length < 12) (hx : inR 0 x (2 * (rs.length : Int) - 1) = true) (h1 : 0 ≤ by') (h2 : 400 < by') (_h3 : True) (_h4 : True) :
    Calls Try.prog 9 #[.agg #[.slice ar rs.length cr, .int .i64 p0, .int .i64 way, .int .i64 step, .slice ap ps.length cp], .int .i64 x, .agg #[.int .i64 by', .int .i64 la]] w (WorksP w) := by
  obtain ⟨W, hW, hb, hs, x0, x5⟩ := boxes2 w #[.slice ar rs.length cr, .int .i64 p0, .int .i64 way, .int .i64 step, .slice ap ps.length cp] 25 #[.int .i64 by', .int .i64 la] 56
  clear hs
  have hrd := fun V h1 h2 => ready_any ar ap cr cp rs ps p0 way step V (by omega) (by omega) (fun _ => h1) (fun _ => h2)
  rw [hv] at hrd
  have hsd := fun V => isSide_29 ar ap cr cp rs ps p0 way step x V (by omega)
  rw [hx] at hsd
  have h12I : (ps.length : Int) < 12 := by omega
  clear hv hx
  go_enter Try.func9, Try.ntmps9
  go_upto_region 1 with fail
  clear hW
  have hbd := (Below.refl W.heap.size W).drew
  have S0 := x5.below hbd
  replace x0 := x0.below hbd
  replace hb := hb.trans (hbd.mono hb.size)
  clear hbd x5
  refine wp_region_head 5 (fun w' => Bx w' (w.heap.size + 1) #[.int .i64 by', .int .i64 la] 56) (by kernel_rfl) rfl ?_
  generalize W.drew = Y0 at *
  refine HeadAt.take (i := 0) (.pointer (some ⟨w.heap.size + 1, 0, none⟩)) rfl (by kernel_rfl) (.inl ⟨rfl, fun _ _ => by simp [go_sem]⟩) S0 ?_
  refine HeadAt.take (i := 1) (.int .i64 by') rfl (by kernel_rfl) (.inl ⟨rfl, fun w' z => ?_⟩) S0 ?_
  · (have z0 := z.cell 0 rfl; simp [go_sem, z0])
  refine HeadAt.take (i := 2) (.pointer (some ⟨w.heap.size + 1, 1, none⟩)) rfl (by kernel_rfl) (.inl ⟨rfl, fun _ _ => by simp [go_sem]⟩) S0 ?_
  refine HeadAt.take (i := 3) (.int .i64 la) rfl (by kernel_rfl) (.inl ⟨rfl, fun w' z => ?_⟩) S0 ?_
  · (have z0 := z.cell 1 rfl; simp [go_sem, z0])
  simp only [Act.put, List.getElem_toArray, List.getElem_cons_succ, List.getElem_cons_zero, List.setIfInBounds_toArray, List.set_cons_succ, List.set_cons_zero]
  refine HeadAt.take (i := 4) (.int .i64 by') rfl (by kernel_rfl) (.inl ⟨rfl, fun _ _ => by simp [go_sem]⟩) S0 ?_
  refine HeadAt.done (by kernel_rfl) ?_
  (try simp only [Act.put, List.drop_succ_cons, List.drop_zero, List.getElem_toArray, List.getElem_cons_succ, List.getElem_cons_zero])
  clear S0
  have c0 := x0.cell 0 rfl; have c1 := x0.cell 1 rfl; have c2 := x0.cell 2 rfl; have c3 := x0.cell 3 rfl; have c4 := x0.cell 4 rfl
  go_wp2_with fail
  refine NoPanic.normal ?_
  go_wp2_with fail
  refine (hrd _ (hR.below hb (Nat.le_refl _)) (hP.below hb (Nat.le_refl _))).mono ?_
  rintro e W1 ⟨rfl, hb1⟩
  clear hrd
  (try clear c0 c1 c2 c3 c4); replace x0 := x0.below hb1; have c0 := x0.cell 0 rfl; have c1 := x0.cell 1 rfl; have c2 := x0.cell 2 rfl; have c3 := x0.cell 3 rfl; have c4 := x0.cell 4 rfl; replace hb := hb.trans (hb1.mono hb.size); clear hb1
  go_wp2_with fail
  refine (hsd _).mono ?_
  rintro e W2 ⟨rfl, hb1⟩
  clear hsd
  (try clear c0 c1 c2 c3 c4); replace x0 := x0.below hb1; have c0 := x0.cell 0 rfl; have c1 := x0.cell 1 rfl; have c2 := x0.cell 2 rfl; have c3 := x0.cell 3 rfl; have c4 := x0.cell 4 rfl; replace hb := hb.trans (hb1.mono hb.size); clear hb1
  go_wp2_with fail
  refine (works_any _).mono ?_
  rintro e V3 ⟨rfl, hb1⟩
  replace hb := hb.trans (hb1.mono hb.size)
  clear hb1
  clear x0 c0 c1 c2 c3 c4
  go_wp2
  go_ret
  exact ⟨rfl, hb⟩

set_option maxRecDepth 100000 in
set_option maxHeartbeats 1000000 in
theorem it_arg5 (ar ap : Option Addr) (cr cp : Nat) (rs ps : List (Int × Int)) (p0 way step : Int) (x by' la : Int) (w : World) (hR : Prs w ar rs) (hP : Prs w ap ps) (hl : rs.length ≤ 40 ∧ ps.length ≤ 40) (hv : rdB rs ps p0 way step = true) (h12 : ps.length < 12) (hx : inR 0 x (2 * (rs.length : Int) - 1) = true) (h1 : 0 ≤ by') (h2 : by' ≤ 400) (h3 : la < 0) (_h4 : True) :
    Calls Try.prog 9 #[.agg #[.slice ar rs.length cr, .int .i64 p0, .int .i64 way, .int .i64 step, .slice ap ps.length cp], .int .i64 x, .agg #[.int .i64 by', .int .i64 la]] w (WorksP w) := by
  obtain ⟨W, hW, hb, hs, x0, x5⟩ := boxes2 w #[.slice ar rs.length cr, .int .i64 p0, .int .i64 way, .int .i64 step, .slice ap ps.length cp] 25 #[.int .i64 by', .int .i64 la] 56
  clear hs
  have hrd := fun V h1 h2 => ready_any ar ap cr cp rs ps p0 way step V (by omega) (by omega) (fun _ => h1) (fun _ => h2)
  rw [hv] at hrd
  have hsd := fun V => isSide_29 ar ap cr cp rs ps p0 way step x V (by omega)
  rw [hx] at hsd
  have h12I : (ps.length : Int) < 12 := by omega
  clear hv hx
  go_enter Try.func9, Try.ntmps9
  go_upto_region 1 with fail
  clear hW
  have hbd := (Below.refl W.heap.size W).drew
  have S0 := x5.below hbd
  replace x0 := x0.below hbd
  replace hb := hb.trans (hbd.mono hb.size)
  clear hbd x5
  refine wp_region_head 5 (fun w' => Bx w' (w.heap.size + 1) #[.int .i64 by', .int .i64 la] 56) (by kernel_rfl) rfl ?_
  generalize W.drew = Y0 at *
  refine HeadAt.take (i := 0) (.pointer (some ⟨w.heap.size + 1, 0, none⟩)) rfl (by kernel_rfl) (.inl ⟨rfl, fun _ _ => by simp [go_sem]⟩) S0 ?_
  refine HeadAt.take (i := 1) (.int .i64 by') rfl (by kernel_rfl) (.inl ⟨rfl, fun w' z => ?_⟩) S0 ?_
  · (have z0 := z.cell 0 rfl; simp [go_sem, z0])
  refine HeadAt.take (i := 2) (.pointer (some ⟨w.heap.size + 1, 1, none⟩)) rfl (by kernel_rfl) (.inl ⟨rfl, fun _ _ => by simp [go_sem]⟩) S0 ?_
  refine HeadAt.take (i := 3) (.int .i64 la) rfl (by kernel_rfl) (.inl ⟨rfl, fun w' z => ?_⟩) S0 ?_
  · (have z0 := z.cell 1 rfl; simp [go_sem, z0])
  simp only [Act.put, List.getElem_toArray, List.getElem_cons_succ, List.getElem_cons_zero, List.setIfInBounds_toArray, List.set_cons_succ, List.set_cons_zero]
  refine HeadAt.take (i := 4) (.int .i64 by') rfl (by kernel_rfl) (.inl ⟨rfl, fun _ _ => by simp [go_sem]⟩) S0 ?_
  refine HeadAt.done (by kernel_rfl) ?_
  (try simp only [Act.put, List.drop_succ_cons, List.drop_zero, List.getElem_toArray, List.getElem_cons_succ, List.getElem_cons_zero])
  clear S0
  have c0 := x0.cell 0 rfl; have c1 := x0.cell 1 rfl; have c2 := x0.cell 2 rfl; have c3 := x0.cell 3 rfl; have c4 := x0.cell 4 rfl
  go_wp2_with fail
  refine NoPanic.normal ?_
  go_wp2_with fail
  refine (hrd _ (hR.below hb (Nat.le_refl _)) (hP.below hb (Nat.le_refl _))).mono ?_
  rintro e W1 ⟨rfl, hb1⟩
  clear hrd
  (try clear c0 c1 c2 c3 c4); replace x0 := x0.below hb1; have c0 := x0.cell 0 rfl; have c1 := x0.cell 1 rfl; have c2 := x0.cell 2 rfl; have c3 := x0.cell 3 rfl; have c4 := x0.cell 4 rfl; replace hb := hb.trans (hb1.mono hb.size); clear hb1
  go_wp2_with fail
  refine (hsd _).mono ?_
  rintro e W2 ⟨rfl, hb1⟩
  clear hsd
  (try clear c0 c1 c2 c3 c4); replace x0 := x0.below hb1; have c0 := x0.cell 0 rfl; have c1 := x0.cell 1 rfl; have c2 := x0.cell 2 rfl; have c3 := x0.cell 3 rfl; have c4 := x0.cell 4 rfl; replace hb := hb.trans (hb1.mono hb.size); clear hb1
  go_wp2_with fail
  refine (works_any _).mono ?_
  rintro e V3 ⟨rfl, hb1⟩
  replace hb := hb.trans (hb1.mono hb.size)
  clear hb1
  clear x0 c0 c1 c2 c3 c4
  go_wp2
  go_ret
  exact ⟨rfl, hb⟩

set_option maxRecDepth 100000 in
set_option maxHeartbeats 1000000 in
theorem it_arg6 (ar ap : Option Addr) (cr cp : Nat) (rs ps : List (Int × Int)) (p0 way step : Int) (x by' la : Int) (w : World) (hR : Prs w ar rs) (hP : Prs w ap ps) (hl : rs.length ≤ 40 ∧ ps.length ≤ 40) (hv : rdB rs ps p0 way step = true) (h12 : ps.length < 12) (hx : inR 0 x (2 * (rs.length : Int) - 1) = true) (h1 : 0 ≤ by') (h2 : by' ≤ 400) (h3 : 0 ≤ la) (h4 : by' < la) :
    Calls Try.prog 9 #[.agg #[.slice ar rs.length cr, .int .i64 p0, .int .i64 way, .int .i64 step, .slice ap ps.length cp], .int .i64 x, .agg #[.int .i64 by', .int .i64 la]] w (WorksP w) := by
  obtain ⟨W, hW, hb, hs, x0, x5⟩ := boxes2 w #[.slice ar rs.length cr, .int .i64 p0, .int .i64 way, .int .i64 step, .slice ap ps.length cp] 25 #[.int .i64 by', .int .i64 la] 56
  clear hs
  have hrd := fun V h1 h2 => ready_any ar ap cr cp rs ps p0 way step V (by omega) (by omega) (fun _ => h1) (fun _ => h2)
  rw [hv] at hrd
  have hsd := fun V => isSide_29 ar ap cr cp rs ps p0 way step x V (by omega)
  rw [hx] at hsd
  have h12I : (ps.length : Int) < 12 := by omega
  clear hv hx
  go_enter Try.func9, Try.ntmps9
  go_upto_region 1 with fail
  clear hW
  have hbd := (Below.refl W.heap.size W).drew
  have S0 := x5.below hbd
  replace x0 := x0.below hbd
  replace hb := hb.trans (hbd.mono hb.size)
  clear hbd x5
  refine wp_region_head 5 (fun w' => Bx w' (w.heap.size + 1) #[.int .i64 by', .int .i64 la] 56) (by kernel_rfl) rfl ?_
  generalize W.drew = Y0 at *
  refine HeadAt.take (i := 0) (.pointer (some ⟨w.heap.size + 1, 0, none⟩)) rfl (by kernel_rfl) (.inl ⟨rfl, fun _ _ => by simp [go_sem]⟩) S0 ?_
  refine HeadAt.take (i := 1) (.int .i64 by') rfl (by kernel_rfl) (.inl ⟨rfl, fun w' z => ?_⟩) S0 ?_
  · (have z0 := z.cell 0 rfl; simp [go_sem, z0])
  refine HeadAt.take (i := 2) (.pointer (some ⟨w.heap.size + 1, 1, none⟩)) rfl (by kernel_rfl) (.inl ⟨rfl, fun _ _ => by simp [go_sem]⟩) S0 ?_
  refine HeadAt.take (i := 3) (.int .i64 la) rfl (by kernel_rfl) (.inl ⟨rfl, fun w' z => ?_⟩) S0 ?_
  · (have z0 := z.cell 1 rfl; simp [go_sem, z0])
  simp only [Act.put, List.getElem_toArray, List.getElem_cons_succ, List.getElem_cons_zero, List.setIfInBounds_toArray, List.set_cons_succ, List.set_cons_zero]
  refine HeadAt.take (i := 4) (.int .i64 by') rfl (by kernel_rfl) (.inl ⟨rfl, fun _ _ => by simp [go_sem]⟩) S0 ?_
  refine HeadAt.done (by kernel_rfl) ?_
  (try simp only [Act.put, List.drop_succ_cons, List.drop_zero, List.getElem_toArray, List.getElem_cons_succ, List.getElem_cons_zero])
  clear S0
  have c0 := x0.cell 0 rfl; have c1 := x0.cell 1 rfl; have c2 := x0.cell 2 rfl; have c3 := x0.cell 3 rfl; have c4 := x0.cell 4 rfl
  go_wp2_with fail
  refine NoPanic.normal ?_
  go_wp2_with fail
  refine (hrd _ (hR.below hb (Nat.le_refl _)) (hP.below hb (Nat.le_refl _))).mono ?_
  rintro e W1 ⟨rfl, hb1⟩
  clear hrd
  (try clear c0 c1 c2 c3 c4); replace x0 := x0.below hb1; have c0 := x0.cell 0 rfl; have c1 := x0.cell 1 rfl; have c2 := x0.cell 2 rfl; have c3 := x0.cell 3 rfl; have c4 := x0.cell 4 rfl; replace hb := hb.trans (hb1.mono hb.size); clear hb1
  go_wp2_with fail
  refine (hsd _).mono ?_
  rintro e W2 ⟨rfl, hb1⟩
  clear hsd
  (try clear c0 c1 c2 c3 c4); replace x0 := x0.below hb1; have c0 := x0.cell 0 rfl; have c1 := x0.cell 1 rfl; have c2 := x0.cell 2 rfl; have c3 := x0.cell 3 rfl; have c4 := x0.cell 4 rfl; replace hb := hb.trans (hb1.mono hb.size); clear hb1
  go_wp2_with fail
  refine (works_any _).mono ?_
  rintro e V3 ⟨rfl, hb1⟩
  replace hb := hb.trans (hb1.mono hb.size)
  clear hb1
  clear x0 c0 c1 c2 c3 c4
  go_wp2
  go_ret
  exact ⟨rfl, hb⟩

/-- The copy with one press more. -/
structure ItR (b0 B0 b12 n m : Nat) (ar ap a1 a5 : Option Addr) (cr cp c1 c5 : Nat) (p0 way step : Int) (rs ps : List (Int × Int)) (q : Int × Int) (w wr : World) : Prop where
  x0 : Bx wr b0 #[.slice ar n cr, .int .i64 p0, .int .i64 way, .int .i64 step, .slice ap m cp] 25
  x12 : Bx wr b12 #[.slice a1 n c1, .int .i64 p0, .int .i64 way, .int .i64 step, .slice a5 (m + 1) c5] 25
  own1 : wr.ownsRow B0 34 2 (.slice a1 n c1) n (pcells rs)
  own2 : wr.ownsRow B0 40 2 (.slice a5 (m + 1) c5) (m + 1) (pcells (ps ++ [q]))
  hd : Dj (.slice a1 n c1) (.slice a5 (m + 1) c5)
  n5 : ∀ k, (Value.slice a5 (m + 1) c5).ownBlock = some k → k ≠ b12
  bB : b0 < B0
  wB : w.heap.size ≤ b0
  hb : Below w.heap.size w wr
section
variable {b0 B0 b12 n m : Nat} {ar ap a1 a5 : Option Addr} {cr cp c1 c5 : Nat} {p0 way step : Int} {rs ps : List (Int × Int)} {q : Int × Int} {w wr wr' : World}
theorem ItR.below (h : ItR b0 B0 b12 n m ar ap a1 a5 cr cp c1 c5 p0 way step rs ps q w wr) (hb : Below wr.heap.size wr wr') : ItR b0 B0 b12 n m ar ap a1 a5 cr cp c1 c5 p0 way step rs ps q w wr' :=
  ⟨h.x0.below hb, h.x12.below hb, own_below2 h.own1 hb, own_below2 h.own2 hb, h.hd, h.n5, h.bB, h.wB, h.hb.trans (hb.mono h.hb.size)⟩
theorem ItR.rows (h : ItR b0 B0 b12 n m ar ap a1 a5 cr cp c1 c5 p0 way step rs ps q w wr) (hn : n = rs.length) (hm : m = ps.length) (hn6 : n ≤ 1000) (hm6 : m ≤ 1000) (hbr : ∀ x ∈ rs, -9223372036854775808 ≤ x.1 ∧ x.1 ≤ 9223372036854775807 ∧ -9223372036854775808 ≤ x.2 ∧ x.2 ≤ 9223372036854775807) (hbp : ∀ x ∈ ps ++ [q], -9223372036854775808 ≤ x.1 ∧ x.1 ≤ 9223372036854775807 ∧ -9223372036854775808 ≤ x.2 ∧ x.2 ≤ 9223372036854775807) : Prs wr a1 rs ∧ Prs wr a5 (ps ++ [q]) :=
  ⟨own_prsA8 h.own1 hn.symm (by omega) hbr, own_prsA8 h.own2 (by rw [List.length_append, hm]; rfl) (by omega) hbp⟩
/-- The press more at another time. -/
theorem ItR.store (h : ItR b0 B0 b12 n m ar ap a1 a5 cr cp c1 c5 p0 way step rs ps q w wr) (hm : m = ps.length) (z : Int) : ∃ g : Nat, a5 = some ⟨g, 0, none⟩ ∧ wr.frozen? ⟨g, m * 2 + 1, none⟩ = false ∧ wr.cell? ⟨g, m * 2 + 1, none⟩ = some (.int .i64 q.2) ∧ ItR b0 B0 b12 n m ar ap a1 a5 cr cp c1 c5 p0 way step rs ps (q.1, z) w (wr.setCell ⟨g, m * 2 + 1, none⟩ (.int .i64 z)) := by
  obtain ⟨x0, x12, own1, own2, hd, n5, bB, wB, hb⟩ := h
  obtain ⟨g, rfl⟩ := own_some own2 (by omega)
  have hge := own_ge2 own2 g rfl
  obtain ⟨o5, gs⟩ := own2.stored (m * 2 + 1) (.int .i64 z)
  have kc := World.ownsRow.cellAt own2 (m * 2 + 1) (by omega)
  have e1 : pcells (ps ++ [q]) = pcells ps ++ [.int .i64 q.1, .int .i64 q.2] := by rw [pcells_app]; rfl
  have e2 : (pcells (ps ++ [q])).set (m * 2 + 1) (.int .i64 z) = pcells (ps ++ [(q.1, z)]) := by
    have e3 : pcells (ps ++ [(q.1, z)]) = pcells ps ++ [.int .i64 q.1, .int .i64 z] := by rw [pcells_app]; rfl
    rw [e1, e3, List.set_append_right _ _ (by rw [pcells_len, hm]; omega), pcells_len, hm, show ps.length * 2 + 1 - ps.length * 2 = 1 by omega]
    rfl
  rw [e2] at o5
  have e4 : (pcells (ps ++ [q]))[m * 2 + 1]? = some (.int .i64 q.2) := by
    rw [e1, List.getElem?_append_right (by rw [pcells_len, hm]; omega), pcells_len, hm, show ps.length * 2 + 1 - ps.length * 2 = 1 by omega]
    rfl
  rw [e4] at kc
  have hg12 := n5 g rfl
  exact ⟨g, rfl, own2.frozenAt _, kc, x0.gb gs (fun k hk => by cases hk; omega), x12.gb gs (fun k hk => by cases hk; omega), own_keep own1 gs (fun k hk e => hd k hk (by rw [← e]; rfl)), o5, hd, n5, bB, wB, hb.grown gs hb.size (fun k hk => by cases hk; omega)⟩
end
theorem app_it {w Wc W5 : World} {B0 b0 b12 n m c1 c2 : Nat} {ar ap a1 a2 : Option Addr} {cr cp : Nat} {p0 way step : Int} {rs ps : List (Int × Int)} {x y : Int} {v5 : Value}
    (x0 : Bx Wc b0 #[.slice ar n cr, .int .i64 p0, .int .i64 way, .int .i64 step, .slice ap m cp] 25) (x12 : Bx Wc b12 #[.slice a1 n c1, .int .i64 p0, .int .i64 way, .int .i64 step, .slice a2 m c2] 25) (own1 : Wc.ownsRow B0 34 2 (.slice a1 n c1) n (pcells rs)) (own2 : Wc.ownsRow B0 40 2 (.slice a2 m c2) m (pcells ps))
    (hd : ∀ k, (Value.slice a1 n c1).ownBlock = some k → (Value.slice a2 m c2).ownBlock ≠ some k) (hb : Below w.heap.size w Wc) (h1 : w.heap.size ≤ b0) (h2 : b0 < B0) (h4 : B0 ≤ b12) (hl1 : ∀ k, (Value.slice a1 n c1).ownBlock = some k → k < b12) (hl2 : ∀ k, (Value.slice a2 m c2).ownBlock = some k → k < b12)
    (hown5 : W5.ownsRow B0 40 2 v5 (m + 1) (pcells ps ++ [.int .i64 x, .int .i64 y])) (hg5 : (Wc.alloc (.cells #[.int .i64 x, .int .i64 y] 40)).grownBy W5 (Value.slice a2 m c2).ownBlock)
    (hat : v5.ownBlock = (Value.slice a2 m c2).ownBlock ∨ v5.ownBlock = some (Wc.alloc (.cells #[.int .i64 x, .int .i64 y] 40)).heap.size) :
    ∃ (a5 : Option Addr) (c5 : Nat), v5 = .slice a5 (m + 1) c5 ∧ W5.frozen? ⟨b12, 4, none⟩ = false ∧ W5.cell? ⟨b12, 4, none⟩ = some (.slice a2 m c2) ∧
      Hid (ItR b0 B0 b12 n m ar ap a1 a5 cr cp c1 c5 p0 way step rs ps (x, y) w (W5.setCell ⟨b12, 4, none⟩ (.slice a5 (m + 1) c5))) := by
  have hb1 := below_one (w := Wc) (.cells #[.int .i64 x, .int .i64 y] 40)
  have own24 := own_below2 own2 hb1
  have own14 := own_below2 own1 hb1
  obtain ⟨a5, c5, rfl⟩ := own_slice2 hown5
  have hge := own_ge2 own24
  have y0 := (x0.below hb1).gb hg5 (fun k hk e => by have := hge k hk; omega)
  have y12 := (x12.below hb1).gb hg5 (fun k hk e => by have := hl2 k hk; omega)
  have o1 := own_keep own14 hg5 (fun k hk e => hd k hk e)
  have hb5 := (hb.trans (hb1.mono hb.size)).grown hg5 (hb.trans (hb1.mono hb.size)).size (fun k hk => by have := hge k hk; omega)
  have gs := gset W5 ⟨b12, 4, none⟩ (.slice a5 (m + 1) c5)
  have h12 := x12.lt
  have hs1 := hb1.size
  have h12' : b12 < (Wc.alloc (.cells #[.int .i64 x, .int .i64 y] 40)).heap.size := by omega
  have hne5 : ∀ k, (Value.slice a5 (m + 1) c5).ownBlock = some k → k ≠ b12 := fun k hk e => by
    rcases hat with h | h
    · rw [hk] at h
      have := hl2 k h.symm
      omega
    · rw [hk] at h
      injection h with h
      omega
  have hdd : Dj (.slice a1 n c1) (.slice a5 (m + 1) c5) := fun k hk h5 => by
    rcases hat with h | h
    · exact hd k hk (by rw [← h]; exact h5)
    · rw [h5] at h
      injection h with h
      have := hl1 k hk
      omega
  have o1' := own_keep o1 gs (fun k hk e => by have := hl1 k hk; injection e with e; have e' : b12 = k := e; omega)
  have o2' := own_keep hown5 gs (fun k hk e => by have := hne5 k hk; injection e with e; have e' : b12 = k := e; omega)
  exact ⟨a5, c5, rfl, y12.free 4, y12.cell 4 rfl, hid ⟨y0.gb gs (fun k hk => by cases hk; show b0 ≠ b12; omega), y12.set 4 _, o1', by rw [pcells_app]; exact o2', hdd, hne5, h2, h1, hb5.grown gs hb5.size (fun k hk => by cases hk; show w.heap.size ≤ b12; omega)⟩⟩
theorem trB_of7 {T : Tr} {rs ps : List (Int × Int)} {p0 way step : Int} (h : IsTr T rs ps p0 way step) (hl : ps.length ≤ 12) : trB rs ps p0 way step = true := by
  obtain ⟨h1, h2, h3, h4, h5, hv⟩ := h
  have n1 := hv.n1; have n6 := hv.n6; have hat := hv.at0; have hst := hv.st
  rw [h1] at n1 n6 hat
  rw [h3] at hst
  unfold trB
  simp only [Bool.and_eq_true, Bool.or_eq_true, decide_eq_true_eq, inR_iff, List.all_eq_true]
  refine ⟨⟨by omega, by omega⟩, fun r hr => ?_, fun p hp => ?_, by omega, ?_, by omega⟩
  · have := hv.rc r (by rw [h1]; exact hr)
    unfold recB
    simp only [Bool.and_eq_true, inR_iff]
    omega
  · have := hv.pr p (by rw [h2]; exact hp)
    rw [h1] at this
    unfold preB
    simp only [Bool.and_eq_true, inR_iff]
    omega
  · rw [← h5]; split <;> simp
set_option maxRecDepth 100000 in
set_option maxHeartbeats 8000000 in
theorem it_ok (ar ap : Option Addr) (cr cp : Nat) (rs ps : List (Int × Int)) (p0 way step : Int) (x by' la : Int) (w : World) (hR : Prs w ar rs) (hP : Prs w ap ps) (hv : rdB rs ps p0 way step = true) (h12 : ps.length < 12) (hx : inR 0 x (2 * (rs.length : Int) - 1) = true) (hby : 0 ≤ by' ∧ by' ≤ 400) (hla : 0 ≤ la ∧ la ≤ by') (T : Tr) (hT : IsTr T rs ps p0 way step) :
    Calls Try.prog 9 #[.agg #[.slice ar rs.length cr, .int .i64 p0, .int .i64 way, .int .i64 step, .slice ap ps.length cp], .int .i64 x, .agg #[.int .i64 by', .int .i64 la]] w (WorksP w) := by
  obtain ⟨i0, hi0, iz0, iz1, iz2⟩ := info_parts info40
  have hvt := rdB_len hv
  have hxI := inR_iff.1 hx
  have hn6 := hT.hv.n6
  rw [hT.T1] at hn6
  obtain ⟨Bf, hBf⟩ : ∃ Bf : Int → Int, Bf = fun y => begF (addP T x y) x y := ⟨_, rfl⟩
  have hadd : ∀ y, 0 ≤ y → y ≤ 9999 → IsTr (addP T x y) rs (ps ++ [(x, y)]) p0 way step := fun y h0 h9 => addP_is hT (by omega) (by omega) ⟨h0, h9⟩
  have hBb : ∀ y, 0 ≤ y → y ≤ 9999 → y ≤ Bf y ∧ Bf y ≤ 1000000 := fun y h0 h9 => by
    have hT' := hadd y h0 h9
    have h1 := beg_ge hT'.hv (addP_mem T x y)
    obtain ⟨A, q, B, e, _, _, _, _, hb⟩ := beg_facts hT'.hv (addP_mem T x y)
    have h2 := plays_time hT'.hv q (by rw [e]; simp)
    rw [hBf]
    exact ⟨h1, by show begF _ _ _ ≤ _; rw [hb]; exact h2⟩
  have hBm : ∀ y1 y2, 0 ≤ y1 → y1 ≤ y2 → y2 ≤ 9999 → Bf y1 ≤ Bf y2 := fun y1 y2 h0 h1 h9 => by
    rw [hBf]
    exact beg_mono (hadd y1 h0 (by omega)).hv (hadd y2 (by omega) h9).hv (by rw [hT.T1]; omega) h0 h1 h9
  have hWt : ∀ y, 0 ≤ y → y ≤ 9999 → ∀ a1 a2 c1 c2 V, Prs V a1 rs → Prs V a2 (ps ++ [(x, y)]) → Calls Try.prog 21 #[.agg #[.slice a1 rs.length c1, .int .i64 p0, .int .i64 way, .int .i64 step, .slice a2 (ps.length + 1) c2], .int .i64 (ps.length : Int)] V fun e w' => e = .returned (.tuple #[.int .i64 (Bf y - y), .int .i64 0]) ∧ Below V.heap.size V w' := fun y h0 h9 a1 a2 c1 c2 V h1 h2 => by
    have hT' := hadd y h0 h9
    have hv' := trB_of7 hT' (by rw [List.length_append, List.length_singleton]; omega)
    have h3 := Wait_of a1 a2 c1 c2 rs (ps ++ [(x, y)]) p0 way step (ps.length : Int) V h1 h2 _ _ _ (fun W d1 d2 => serviceOf_ok a1 a2 c1 c2 rs (ps ++ [(x, y)]) p0 way step (ps.length : Int) W d1 d2 hv' (inR_iff.2 (by rw [List.length_append, List.length_singleton]; omega)) (addP T x y) hT' _ rfl x y (by rw [Int.toNat_natCast]; simp))
    rw [List.length_append, List.length_singleton] at h3
    rw [hBf]
    exact h3
  have hLt := fun V h1 h2 => Latest_ok ar ap cr cp rs ps p0 way step x by' V h1 h2 hvt hx (inR_iff.2 (by omega)) (by omega) T hT
  have hlp : ∀ i : Nat, lateP T x by' i = decide (by' < Bf (i : Int)) := fun i => by rw [hBf]; rfl
  simp only [hlp, decide_eq_false_iff_not, decide_eq_true_eq] at hLt
  have hcp := fun V h1 h2 => copy_any ar ap cr cp rs ps p0 way step V h1 h2 (by omega) (by omega)
  unfold CopyP at hcp
  have hrd := fun V h1 h2 => ready_any ar ap cr cp rs ps p0 way step V (by omega) (by omega) (fun _ => h1) (fun _ => h2)
  rw [hv] at hrd
  have hsd := fun V => isSide_29 ar ap cr cp rs ps p0 way step x V (by omega)
  rw [hx] at hsd
  obtain ⟨n, hn⟩ : ∃ n, n = rs.length := ⟨_, rfl⟩
  obtain ⟨m, hm⟩ : ∃ m, m = ps.length := ⟨_, rfl⟩
  have hRB := hR.2.1; have hPB := hP.2.1
  rw [← hn, ← hm] at hWt hLt hcp hrd hsd ⊢
  rw [← hn] at hn6
  rw [← hm] at h12
  have HN := hid hn; have HM := hid hm; have HWT := hid hWt; have HBB := hid hBb; have HBM := hid hBm; have HRB := hid hRB; have HPB := hid hPB
  obtain ⟨W, hW, hb, hs, x0, x5⟩ := boxes2 w #[.slice ar n cr, .int .i64 p0, .int .i64 way, .int .i64 step, .slice ap m cp] 25 #[.int .i64 by', .int .i64 la] 56
  have h12I : (m : Int) < 12 := by omega
  have hm0I : (0 : Int) ≤ (m : Int) := by omega
  have hm1I : (m : Int) < ((m + 1 : Nat) : Int) := by omega
  clear hs hn hm hv hvt hx hBf hadd hBb hBm hWt hlp hT hRB hPB
  go_enter Try.func9, Try.ntmps9
  go_upto_region 1 with fail
  clear hW
  have hbd := (Below.refl W.heap.size W).drew
  have S0 := x5.below hbd
  replace x0 := x0.below hbd
  replace hb := hb.trans (hbd.mono hb.size)
  clear hbd x5
  refine wp_region_head 5 (fun w' => Bx w' (w.heap.size + 1) #[.int .i64 by', .int .i64 la] 56) (by kernel_rfl) rfl ?_
  generalize W.drew = Y0 at *
  refine HeadAt.take (i := 0) (.pointer (some ⟨w.heap.size + 1, 0, none⟩)) rfl (by kernel_rfl) (.inl ⟨rfl, fun _ _ => by simp [go_sem]⟩) S0 ?_
  refine HeadAt.take (i := 1) (.int .i64 by') rfl (by kernel_rfl) (.inl ⟨rfl, fun w' z => ?_⟩) S0 ?_
  · (have z0 := z.cell 0 rfl; simp [go_sem, z0])
  refine HeadAt.take (i := 2) (.pointer (some ⟨w.heap.size + 1, 1, none⟩)) rfl (by kernel_rfl) (.inl ⟨rfl, fun _ _ => by simp [go_sem]⟩) S0 ?_
  refine HeadAt.take (i := 3) (.int .i64 la) rfl (by kernel_rfl) (.inl ⟨rfl, fun w' z => ?_⟩) S0 ?_
  · (have z0 := z.cell 1 rfl; simp [go_sem, z0])
  simp only [Act.put, List.getElem_toArray, List.getElem_cons_succ, List.getElem_cons_zero, List.setIfInBounds_toArray, List.set_cons_succ, List.set_cons_zero]
  refine HeadAt.take (i := 4) (.int .i64 by') rfl (by kernel_rfl) (.inl ⟨rfl, fun _ _ => by simp [go_sem]⟩) S0 ?_
  refine HeadAt.done (by kernel_rfl) ?_
  (try simp only [Act.put, List.drop_succ_cons, List.drop_zero, List.getElem_toArray, List.getElem_cons_succ, List.getElem_cons_zero])
  clear S0
  have c0 := x0.cell 0 rfl; have c1 := x0.cell 1 rfl; have c2 := x0.cell 2 rfl; have c3 := x0.cell 3 rfl; have c4 := x0.cell 4 rfl
  go_wp2_with fail
  refine NoPanic.normal ?_
  go_wp2_with fail
  refine (hrd _ (hR.below hb (Nat.le_refl _)) (hP.below hb (Nat.le_refl _))).mono ?_
  rintro e W1 ⟨rfl, hb1⟩
  clear hrd
  (try clear c0 c1 c2 c3 c4); replace x0 := x0.below hb1; have c0 := x0.cell 0 rfl; have c1 := x0.cell 1 rfl; have c2 := x0.cell 2 rfl; have c3 := x0.cell 3 rfl; have c4 := x0.cell 4 rfl; replace hb := hb.trans (hb1.mono hb.size); clear hb1
  go_wp2_with fail
  refine (hsd _).mono ?_
  rintro e W2 ⟨rfl, hb1⟩
  clear hsd
  (try clear c0 c1 c2 c3 c4); replace x0 := x0.below hb1; have c0 := x0.cell 0 rfl; have c1 := x0.cell 1 rfl; have c2 := x0.cell 2 rfl; have c3 := x0.cell 3 rfl; have c4 := x0.cell 4 rfl; replace hb := hb.trans (hb1.mono hb.size); clear hb1
  go_wp2_with fail
  refine (hLt _ (hR.below hb (Nat.le_refl _)) (hP.below hb (Nat.le_refl _))).mono ?_
  rintro e W3 ⟨k, rfl, hk1, hk2, hk3, hb1⟩
  clear hLt
  (try clear c0 c1 c2 c3 c4); replace x0 := x0.below hb1; have c0 := x0.cell 0 rfl; have c1 := x0.cell 1 rfl; have c2 := x0.cell 2 rfl; have c3 := x0.cell 3 rfl; have c4 := x0.cell 4 rfl; replace hb := hb.trans (hb1.mono hb.size); clear hb1
  have hBla := HBB.out la (by omega) (by omega)
  obtain ⟨wl, hwl⟩ : ∃ wl, wl = Bf la - la := ⟨_, rfl⟩
  have hwl0 : 0 ≤ wl := by omega
  have ewl : IntKind.i64.wrap (la + wl) = Bf la := by rw [hwl, show la + (Bf la - la) = Bf la by omega]; exact IntWalk.i64_in _ (by omega)
  have HWL := hid hwl
  have HK2 := hid hk2; have HK3 := hid hk3
  clear hk2 hk3 hwl
  by_cases hk0 : k = 0
  · subst hk0
    rw [if_pos rfl]
    have hbl : by' < Bf la := by
      have h1 := HK3.out (by omega)
      have h2 := HBM.out 0 la (Int.le_refl _) (by omega) (by omega)
      have h3 : ((0 : Nat) : Int) = 0 := rfl
      rw [h3] at h1
      omega
    go_wp2_with fail
    obtain ⟨B0, hB0⟩ : ∃ B, B = W3.heap.size := ⟨_, rfl⟩
    have hxB : w.heap.size < B0 := by rw [hB0]; exact x0.lt
    refine (hcp _ (hR.below hb (Nat.le_refl _)) (hP.below hb (Nat.le_refl _))).mono ?_
    rintro e W6 ⟨hb1, a1, a2, c1', c2', rfl, own1, own2, hdis⟩
    clear hcp
    have hB6 : B0 ≤ W6.heap.size := by rw [hB0]; exact hb1.size
    rw [← hB0] at own1 own2
    have hl1 := own_lt own1; have hl2 := own_lt own2
    replace x0 := x0.below hb1; replace hb := hb.trans (hb1.mono hb.size)
    obtain ⟨Wc, hWc, hbx, hsx, x12⟩ := boxes1 W6 #[.slice a1 n c1', .int .i64 p0, .int .i64 way, .int .i64 step, .slice a2 m c2'] 25
    replace x0 := x0.below hbx; replace hb := hb.trans (hbx.mono hb.size)
    replace own1 := own_below2 own1 hbx; replace own2 := own_below2 own2 hbx
    have own2d := own_below2 own2 (below_one (w := Wc) (.cells #[.int .i64 x, .int .i64 la] 40))
    have hcl := Cls.of_bx (Bx.new Wc #[.int .i64 x, .int .i64 la] 40)
    have hBc : B0 ≤ (Wc.alloc (.cells #[.int .i64 x, .int .i64 la] 40)).heap.size := by simp [hsx]; omega
    have hap := fun v5 W5 => app_it (v5 := v5) (W5 := W5) (w := w) (x := x) (y := la) x0 x12 own1 own2 hdis hb (Nat.le_refl _) hxB hB6 hl1 hl2
    have HAP := hid hap
    (try clear c0 c1 c2 c3 c4)
    have c0 := x0.cell 0 rfl; have c1 := x0.cell 1 rfl; have c2 := x0.cell 2 rfl; have c3 := x0.cell 3 rfl; have c4 := x0.cell 4 rfl
    have d0 := x12.cell 0 rfl; have d1 := x12.cell 1 rfl; have d2 := x12.cell 2 rfl; have d3 := x12.cell 3 rfl; have d4 := x12.cell 4 rfl
    clear hap hdis own1 own2 hl1 hl2 hB0 x0 x12 hbx hsx hb1 hb
    go_wp2_with (at_builtin; refine wpList_appAt rfl (.tmp 80) (.tmp 84) 23 rfl B0 40 i0 (.agg #[.int .i64 0, .int .i64 0]) 2 16 under23 hi0 iz0 iz1 iz2 rfl (by decide) (.slice a2 m c2') m (pcells ps) rfl own2d (some ⟨Wc.heap.size, 0, none⟩) 1 1 [.int .i64 x, .int .i64 la] rfl rfl hcl (by simp; exact ⟨rfl, rfl⟩) (by unfold maxLen; omega) (by omega) hBc ?_; intro v5 W5' hown5 hg5 hat; obtain ⟨a5, c5, rfl, fr5, kc5, HF⟩ := HAP.out _ _ hown5 hg5 hat; have y0 := HF.out.x0; have y12 := HF.out.x12; clear c0 c1 c2 c3 c4 d0 d1 d2 d3 d4; have c0 := y0.cell 0 rfl; have c1 := y0.cell 1 rfl; have c2 := y0.cell 2 rfl; have c3 := y0.cell 3 rfl; have c4 := y0.cell 4 rfl; have d0 := y12.cell 0 rfl; have d1 := y12.cell 1 rfl; have d2 := y12.cell 2 rfl; have d3 := y12.cell 3 rfl; have d4 := y12.cell 4 rfl; clear hown5 hg5 hat own2d hcl)
    clear y0 y12 HAP fr5 kc5 hWc c0 c1 c2 c3 c4 d0 d1 d2 d3 d4
    generalize W5'.setCell ⟨W6.heap.size, 4, none⟩ (.slice a5 (m + 1) c5) = W7 at *
    obtain ⟨q1, q2⟩ := HF.out.rows HN.out HM.out (by omega) (by omega) HRB.out (fun z hz => by
      rcases List.mem_append.1 hz with h | h
      · exact HPB.out z h
      · rw [List.mem_singleton.1 h]; have hnn := HN.out; dsimp only; omega)
    have hW1 := HWT.out la (by omega) (by omega) a1 a5 c1' c5 W7 q1 q2
    rw [← HWL.out] at hW1
    refine hW1.mono ?_
    rintro e W8 ⟨rfl, hb8⟩
    replace HF := hid (HF.out.below hb8)
    have y0 := HF.out.x0; have y12 := HF.out.x12
    have hb := HF.out.hb
    have c0 := y0.cell 0 rfl; have c1 := y0.cell 1 rfl; have c2 := y0.cell 2 rfl; have c3 := y0.cell 3 rfl; have c4 := y0.cell 4 rfl
    have d0 := y12.cell 0 rfl; have d1 := y12.cell 1 rfl; have d2 := y12.cell 2 rfl; have d3 := y12.cell 3 rfl; have d4 := y12.cell 4 rfl
    clear q1 q2 hW1 hb8 y0 y12
    go_wp2_with fail
    refine (works_any _).mono ?_
    rintro e V3 ⟨rfl, hb1⟩
    replace hb := hb.trans (hb1.mono hb.size)
    clear hb1
    clear HF c0 c1 c2 c3 c4 d0 d1 d2 d3 d4
    go_wp2
    go_ret
    exact ⟨rfl, hb⟩
  · rw [if_neg hk0]
    obtain ⟨j, rfl⟩ : ∃ j, k = j + 1 := ⟨k - 1, by omega⟩
    rw [show ((j + 1 : Nat) : Int) - 1 = (j : Int) by omega]
    have hjb : (j : Int) ≤ by' := by omega
    have hj0 : (0 : Int) ≤ (j : Int) := by omega
    have hBj := HBB.out (j : Int) (by omega) (by omega)
    obtain ⟨wj, hwj⟩ : ∃ wj, wj = Bf (j : Int) - (j : Int) := ⟨_, rfl⟩
    have hwj0 : 0 ≤ wj := by omega
    have ewj : IntKind.i64.wrap ((j : Int) + wj) = Bf (j : Int) := by rw [hwj, show (j : Int) + (Bf (j : Int) - (j : Int)) = Bf (j : Int) by omega]; exact IntWalk.i64_in _ (by omega)
    have hbj : Bf (j : Int) ≤ by' := by
      have h1 := HK2.out (by omega)
      rw [Nat.add_sub_cancel] at h1
      omega
    have HWJ := hid hwj
    clear hwj
    by_cases hjl : (j : Int) < la
    · have hbl : by' < Bf la := by
        have h1 := HK3.out (by omega)
        have h2 := HBM.out ((j + 1 : Nat) : Int) la (by omega) (by omega) (by omega)
        omega
      go_wp2_with fail
      obtain ⟨B0, hB0⟩ : ∃ B, B = W3.heap.size := ⟨_, rfl⟩
      have hxB : w.heap.size < B0 := by rw [hB0]; exact x0.lt
      refine (hcp _ (hR.below hb (Nat.le_refl _)) (hP.below hb (Nat.le_refl _))).mono ?_
      rintro e W6 ⟨hb1, a1, a2, c1', c2', rfl, own1, own2, hdis⟩
      clear hcp
      have hB6 : B0 ≤ W6.heap.size := by rw [hB0]; exact hb1.size
      rw [← hB0] at own1 own2
      have hl1 := own_lt own1; have hl2 := own_lt own2
      replace x0 := x0.below hb1; replace hb := hb.trans (hb1.mono hb.size)
      obtain ⟨Wc, hWc, hbx, hsx, x12⟩ := boxes1 W6 #[.slice a1 n c1', .int .i64 p0, .int .i64 way, .int .i64 step, .slice a2 m c2'] 25
      replace x0 := x0.below hbx; replace hb := hb.trans (hbx.mono hb.size)
      replace own1 := own_below2 own1 hbx; replace own2 := own_below2 own2 hbx
      have own2d := own_below2 own2 (below_one (w := Wc) (.cells #[.int .i64 x, .int .i64 la] 40))
      have hcl := Cls.of_bx (Bx.new Wc #[.int .i64 x, .int .i64 la] 40)
      have hBc : B0 ≤ (Wc.alloc (.cells #[.int .i64 x, .int .i64 la] 40)).heap.size := by simp [hsx]; omega
      have hap := fun v5 W5 => app_it (v5 := v5) (W5 := W5) (w := w) (x := x) (y := la) x0 x12 own1 own2 hdis hb (Nat.le_refl _) hxB hB6 hl1 hl2
      have HAP := hid hap
      (try clear c0 c1 c2 c3 c4)
      have c0 := x0.cell 0 rfl; have c1 := x0.cell 1 rfl; have c2 := x0.cell 2 rfl; have c3 := x0.cell 3 rfl; have c4 := x0.cell 4 rfl
      have d0 := x12.cell 0 rfl; have d1 := x12.cell 1 rfl; have d2 := x12.cell 2 rfl; have d3 := x12.cell 3 rfl; have d4 := x12.cell 4 rfl
      clear hap hdis own1 own2 hl1 hl2 hB0 x0 x12 hbx hsx hb1 hb
      go_wp2_with (at_builtin; refine wpList_appAt rfl (.tmp 80) (.tmp 84) 23 rfl B0 40 i0 (.agg #[.int .i64 0, .int .i64 0]) 2 16 under23 hi0 iz0 iz1 iz2 rfl (by decide) (.slice a2 m c2') m (pcells ps) rfl own2d (some ⟨Wc.heap.size, 0, none⟩) 1 1 [.int .i64 x, .int .i64 la] rfl rfl hcl (by simp; exact ⟨rfl, rfl⟩) (by unfold maxLen; omega) (by omega) hBc ?_; intro v5 W5' hown5 hg5 hat; obtain ⟨a5, c5, rfl, fr5, kc5, HF⟩ := HAP.out _ _ hown5 hg5 hat; have y0 := HF.out.x0; have y12 := HF.out.x12; clear c0 c1 c2 c3 c4 d0 d1 d2 d3 d4; have c0 := y0.cell 0 rfl; have c1 := y0.cell 1 rfl; have c2 := y0.cell 2 rfl; have c3 := y0.cell 3 rfl; have c4 := y0.cell 4 rfl; have d0 := y12.cell 0 rfl; have d1 := y12.cell 1 rfl; have d2 := y12.cell 2 rfl; have d3 := y12.cell 3 rfl; have d4 := y12.cell 4 rfl; clear hown5 hg5 hat own2d hcl)
      clear y0 y12 HAP fr5 kc5 hWc c0 c1 c2 c3 c4 d0 d1 d2 d3 d4
      generalize W5'.setCell ⟨W6.heap.size, 4, none⟩ (.slice a5 (m + 1) c5) = W7 at *
      obtain ⟨q1, q2⟩ := HF.out.rows HN.out HM.out (by omega) (by omega) HRB.out (fun z hz => by
        rcases List.mem_append.1 hz with h | h
        · exact HPB.out z h
        · rw [List.mem_singleton.1 h]; have hnn := HN.out; dsimp only; omega)
      have hW1 := HWT.out la (by omega) (by omega) a1 a5 c1' c5 W7 q1 q2
      rw [← HWL.out] at hW1
      refine hW1.mono ?_
      rintro e W8 ⟨rfl, hb8⟩
      replace HF := hid (HF.out.below hb8)
      have y0 := HF.out.x0; have y12 := HF.out.x12
      have hb := HF.out.hb
      have c0 := y0.cell 0 rfl; have c1 := y0.cell 1 rfl; have c2 := y0.cell 2 rfl; have c3 := y0.cell 3 rfl; have c4 := y0.cell 4 rfl
      have d0 := y12.cell 0 rfl; have d1 := y12.cell 1 rfl; have d2 := y12.cell 2 rfl; have d3 := y12.cell 3 rfl; have d4 := y12.cell 4 rfl
      clear q1 q2 hW1 hb8 y0 y12
      clear hb
      obtain ⟨g, rfl, frz, kcz, hI2⟩ := HF.out.store HM.out (j : Int)
      have HI2 := hid hI2
      have frw := hI2.x0
      clear hI2
      go_upto_region 15 with fail
      clear frz kcz c0 c1 c2 c3 c4 d0 d1 d2 d3 d4 frw HF
      generalize W8.setCell ⟨g, m * 2 + 1, none⟩ (.int .i64 (j : Int)) = W9 at *
      obtain ⟨q1, q2⟩ := HI2.out.rows HN.out HM.out (by omega) (by omega) HRB.out (fun z hz => by
        rcases List.mem_append.1 hz with h | h
        · exact HPB.out z h
        · rw [List.mem_singleton.1 h]; have hnn := HN.out; dsimp only; omega)
      have hW2 := HWT.out (j : Int) (by omega) (by omega) a1 (some ⟨g, 0, none⟩) c1' c5 W9 q1 q2
      rw [← HWJ.out] at hW2
      have y0 := HI2.out.x0; have y12 := HI2.out.x12
      have hb := HI2.out.hb
      have c0 := y0.cell 0 rfl; have c1 := y0.cell 1 rfl; have c2 := y0.cell 2 rfl; have c3 := y0.cell 3 rfl; have c4 := y0.cell 4 rfl
      have d0 := y12.cell 0 rfl; have d1 := y12.cell 1 rfl; have d2 := y12.cell 2 rfl; have d3 := y12.cell 3 rfl; have d4 := y12.cell 4 rfl
      clear q1 q2 y0 y12 HI2
      go_wp2_with fail
      refine hW2.mono ?_
      rintro e W10 ⟨rfl, hb10⟩
      replace hb := hb.trans (hb10.mono hb.size)
      clear hW2 hb10 c0 c1 c2 c3 c4 d0 d1 d2 d3 d4
      go_wp2_with fail
      refine (works_any _).mono ?_
      rintro e V3 ⟨rfl, hb1⟩
      replace hb := hb.trans (hb1.mono hb.size)
      clear hb1
      go_wp2
      go_ret
      exact ⟨rfl, hb⟩
    · have hjl2 : la ≤ (j : Int) := by omega
      go_wp2_with fail
      obtain ⟨B0, hB0⟩ : ∃ B, B = W3.heap.size := ⟨_, rfl⟩
      have hxB : w.heap.size < B0 := by rw [hB0]; exact x0.lt
      refine (hcp _ (hR.below hb (Nat.le_refl _)) (hP.below hb (Nat.le_refl _))).mono ?_
      rintro e W6 ⟨hb1, a1, a2, c1', c2', rfl, own1, own2, hdis⟩
      clear hcp
      have hB6 : B0 ≤ W6.heap.size := by rw [hB0]; exact hb1.size
      rw [← hB0] at own1 own2
      have hl1 := own_lt own1; have hl2 := own_lt own2
      replace x0 := x0.below hb1; replace hb := hb.trans (hb1.mono hb.size)
      obtain ⟨Wc, hWc, hbx, hsx, x12⟩ := boxes1 W6 #[.slice a1 n c1', .int .i64 p0, .int .i64 way, .int .i64 step, .slice a2 m c2'] 25
      replace x0 := x0.below hbx; replace hb := hb.trans (hbx.mono hb.size)
      replace own1 := own_below2 own1 hbx; replace own2 := own_below2 own2 hbx
      have own2d := own_below2 own2 (below_one (w := Wc) (.cells #[.int .i64 x, .int .i64 la] 40))
      have hcl := Cls.of_bx (Bx.new Wc #[.int .i64 x, .int .i64 la] 40)
      have hBc : B0 ≤ (Wc.alloc (.cells #[.int .i64 x, .int .i64 la] 40)).heap.size := by simp [hsx]; omega
      have hap := fun v5 W5 => app_it (v5 := v5) (W5 := W5) (w := w) (x := x) (y := la) x0 x12 own1 own2 hdis hb (Nat.le_refl _) hxB hB6 hl1 hl2
      have HAP := hid hap
      (try clear c0 c1 c2 c3 c4)
      have c0 := x0.cell 0 rfl; have c1 := x0.cell 1 rfl; have c2 := x0.cell 2 rfl; have c3 := x0.cell 3 rfl; have c4 := x0.cell 4 rfl
      have d0 := x12.cell 0 rfl; have d1 := x12.cell 1 rfl; have d2 := x12.cell 2 rfl; have d3 := x12.cell 3 rfl; have d4 := x12.cell 4 rfl
      clear hap hdis own1 own2 hl1 hl2 hB0 x0 x12 hbx hsx hb1 hb
      go_wp2_with (at_builtin; refine wpList_appAt rfl (.tmp 80) (.tmp 84) 23 rfl B0 40 i0 (.agg #[.int .i64 0, .int .i64 0]) 2 16 under23 hi0 iz0 iz1 iz2 rfl (by decide) (.slice a2 m c2') m (pcells ps) rfl own2d (some ⟨Wc.heap.size, 0, none⟩) 1 1 [.int .i64 x, .int .i64 la] rfl rfl hcl (by simp; exact ⟨rfl, rfl⟩) (by unfold maxLen; omega) (by omega) hBc ?_; intro v5 W5' hown5 hg5 hat; obtain ⟨a5, c5, rfl, fr5, kc5, HF⟩ := HAP.out _ _ hown5 hg5 hat; have y0 := HF.out.x0; have y12 := HF.out.x12; clear c0 c1 c2 c3 c4 d0 d1 d2 d3 d4; have c0 := y0.cell 0 rfl; have c1 := y0.cell 1 rfl; have c2 := y0.cell 2 rfl; have c3 := y0.cell 3 rfl; have c4 := y0.cell 4 rfl; have d0 := y12.cell 0 rfl; have d1 := y12.cell 1 rfl; have d2 := y12.cell 2 rfl; have d3 := y12.cell 3 rfl; have d4 := y12.cell 4 rfl; clear hown5 hg5 hat own2d hcl)
      clear y0 y12 HAP fr5 kc5 hWc c0 c1 c2 c3 c4 d0 d1 d2 d3 d4
      generalize W5'.setCell ⟨W6.heap.size, 4, none⟩ (.slice a5 (m + 1) c5) = W7 at *
      obtain ⟨q1, q2⟩ := HF.out.rows HN.out HM.out (by omega) (by omega) HRB.out (fun z hz => by
        rcases List.mem_append.1 hz with h | h
        · exact HPB.out z h
        · rw [List.mem_singleton.1 h]; have hnn := HN.out; dsimp only; omega)
      have hW1 := HWT.out la (by omega) (by omega) a1 a5 c1' c5 W7 q1 q2
      rw [← HWL.out] at hW1
      refine hW1.mono ?_
      rintro e W8 ⟨rfl, hb8⟩
      replace HF := hid (HF.out.below hb8)
      have y0 := HF.out.x0; have y12 := HF.out.x12
      have hb := HF.out.hb
      have c0 := y0.cell 0 rfl; have c1 := y0.cell 1 rfl; have c2 := y0.cell 2 rfl; have c3 := y0.cell 3 rfl; have c4 := y0.cell 4 rfl
      have d0 := y12.cell 0 rfl; have d1 := y12.cell 1 rfl; have d2 := y12.cell 2 rfl; have d3 := y12.cell 3 rfl; have d4 := y12.cell 4 rfl
      clear q1 q2 hW1 hb8 y0 y12
      clear hb
      obtain ⟨g, rfl, frz, kcz, hI2⟩ := HF.out.store HM.out (j : Int)
      have HI2 := hid hI2
      have frw := hI2.x0
      clear hI2
      go_upto_region 15 with fail
      clear frz kcz c0 c1 c2 c3 c4 d0 d1 d2 d3 d4 frw HF
      generalize W8.setCell ⟨g, m * 2 + 1, none⟩ (.int .i64 (j : Int)) = W9 at *
      obtain ⟨q1, q2⟩ := HI2.out.rows HN.out HM.out (by omega) (by omega) HRB.out (fun z hz => by
        rcases List.mem_append.1 hz with h | h
        · exact HPB.out z h
        · rw [List.mem_singleton.1 h]; have hnn := HN.out; dsimp only; omega)
      have hW2 := HWT.out (j : Int) (by omega) (by omega) a1 (some ⟨g, 0, none⟩) c1' c5 W9 q1 q2
      rw [← HWJ.out] at hW2
      have y0 := HI2.out.x0; have y12 := HI2.out.x12
      have hb := HI2.out.hb
      have c0 := y0.cell 0 rfl; have c1 := y0.cell 1 rfl; have c2 := y0.cell 2 rfl; have c3 := y0.cell 3 rfl; have c4 := y0.cell 4 rfl
      have d0 := y12.cell 0 rfl; have d1 := y12.cell 1 rfl; have d2 := y12.cell 2 rfl; have d3 := y12.cell 3 rfl; have d4 := y12.cell 4 rfl
      clear q1 q2 y0 y12 HI2
      go_wp2_with fail
      refine hW2.mono ?_
      rintro e W10 ⟨rfl, hb10⟩
      replace hb := hb.trans (hb10.mono hb.size)
      clear hW2 hb10 c0 c1 c2 c3 c4 d0 d1 d2 d3 d4
      go_wp2_with fail
      refine (works_any _).mono ?_
      rintro e V3 ⟨rfl, hb1⟩
      replace hb := hb.trans (hb1.mono hb.size)
      clear hb1
      go_wp2
      go_ret
      exact ⟨rfl, hb⟩
theorem intime_any (ar ap : Option Addr) (cr cp : Nat) (rs ps : List (Int × Int)) (p0 way step : Int) (x by' la : Int) (w : World) (hlr : rs.length ≤ 9223372036854775807) (hlp : ps.length ≤ 9223372036854775807) (hR : rs.length ≤ 1000 → Prs w ar rs) (hP : ps.length ≤ 1000 → Prs w ap ps) :
    Calls Try.prog 9 #[.agg #[.slice ar rs.length cr, .int .i64 p0, .int .i64 way, .int .i64 step, .slice ap ps.length cp], .int .i64 x, .agg #[.int .i64 by', .int .i64 la]] w (WorksP w) := by
  cases hv : rdB rs ps p0 way step
  · exact it_arg0 ar ap cr cp rs ps p0 way step x by' la w hlr hlp hR hP hv
  · have hl : rs.length ≤ 6 ∧ ps.length ≤ 12 := by have h := rdB_len hv; unfold trB at h; simp only [Bool.and_eq_true, decide_eq_true_eq, inR_iff] at h; omega
    have hR' := hR (by omega)
    have hP' := hP (by omega)
    have hl40 : rs.length ≤ 40 ∧ ps.length ≤ 40 := by omega
    by_cases h12 : 12 ≤ ps.length
    · exact it_arg1 ar ap cr cp rs ps p0 way step x by' la w hR' hP' hl40 hv h12
    · have h12' : ps.length < 12 := by omega
      cases hx : inR 0 x (2 * (rs.length : Int) - 1)
      · exact it_arg2 ar ap cr cp rs ps p0 way step x by' la w hR' hP' hl40 hv h12' hx trivial trivial trivial trivial
      · by_cases h1 : by' < 0
        · exact it_arg3 ar ap cr cp rs ps p0 way step x by' la w hR' hP' hl40 hv h12' hx h1 trivial trivial trivial
        · by_cases h2 : 400 < by'
          · exact it_arg4 ar ap cr cp rs ps p0 way step x by' la w hR' hP' hl40 hv h12' hx (by omega) h2 trivial trivial
          · by_cases h3 : la < 0
            · exact it_arg5 ar ap cr cp rs ps p0 way step x by' la w hR' hP' hl40 hv h12' hx (by omega) (by omega) h3 trivial
            · by_cases h4 : by' < la
              · exact it_arg6 ar ap cr cp rs ps p0 way step x by' la w hR' hP' hl40 hv h12' hx (by omega) (by omega) (by omega) h4
              · obtain ⟨T, hT, _⟩ := tr_of (rdB_len hv)
                exact it_ok ar ap cr cp rs ps p0 way step x by' la w hR' hP' hv h12' hx (by omega) (by omega) T hT
end Go.Proofs.Ytknaljghpfeikaa
