import Derived.Test.YtknaljghpfeikaaT13
namespace Go.Proofs.Ytknaljghpfeikaa
open Go.RowKit

set_option maxRecDepth 100000 in
set_option maxHeartbeats 1000000 in
theorem serviceOf_bad (ar ap : Option Addr) (cr cp : Nat) (rs ps : List (Int × Int)) (p0 way step : Int) (n : Int) (w : World) (hR : Prs w ar rs) (hP : Prs w ap ps) (hv : trB rs ps p0 way step = false) :
    Calls Try.prog 54 #[.agg #[.slice ar rs.length cr, .int .i64 p0, .int .i64 way, .int .i64 step, .slice ap ps.length cp], .int .i64 n] w fun e w' => e = .returned (.tuple #[.int .i64 0, .int .i64 0, .int .i64 20]) ∧ Below w.heap.size w w' := by
  obtain ⟨W, hW, hb, hs, x0⟩ := boxes1 w #[.slice ar rs.length cr, .int .i64 p0, .int .i64 way, .int .i64 step, .slice ap ps.length cp] 25
  clear hs
  replace hR := hR.below hb (Nat.le_refl _); replace hP := hP.below hb (Nat.le_refl _)
  have c0 := x0.cell 0 rfl; have c1 := x0.cell 1 rfl; have c2 := x0.cell 2 rfl; have c3 := x0.cell 3 rfl; have c4 := x0.cell 4 rfl
  go_enter Try.func54, Try.ntmps54
  go_wp2_with fail
  refine (valid_any ar ap cr cp rs ps p0 way step W hR hP).mono ?_
  rintro e W1 ⟨rfl, hb1⟩
  rw [hv]
  replace hb := hb.trans (hb1.mono hb.size)
  clear hW x0 c0 c1 c2 c3 c4 hb1
  go_wp2
  exact bodyPost_ret (v := .tuple #[.int .i64 0, .int .i64 0, .int .i64 20]) (by simp [results, Try.results54, go_sem]) rfl ⟨rfl, hb⟩
set_option maxRecDepth 100000 in
set_option maxHeartbeats 1000000 in
theorem serviceOf_arg (ar ap : Option Addr) (cr cp : Nat) (rs ps : List (Int × Int)) (p0 way step : Int) (n : Int) (w : World) (hR : Prs w ar rs) (hP : Prs w ap ps) (hv : trB rs ps p0 way step = true) (hn : inR 0 n ((ps.length : Int) - 1) = false) :
    Calls Try.prog 54 #[.agg #[.slice ar rs.length cr, .int .i64 p0, .int .i64 way, .int .i64 step, .slice ap ps.length cp], .int .i64 n] w fun e w' => e = .returned (.tuple #[.int .i64 0, .int .i64 0, .int .i64 1]) ∧ Below w.heap.size w w' := by
  have hl := hP.1
  have hlI : (ps.length : Int) ≤ 4611686018427387903 := by omega
  obtain ⟨W, hW, hb, hs, x0⟩ := boxes1 w #[.slice ar rs.length cr, .int .i64 p0, .int .i64 way, .int .i64 step, .slice ap ps.length cp] 25
  clear hs
  replace hR := hR.below hb (Nat.le_refl _); replace hP := hP.below hb (Nat.le_refl _)
  have c0 := x0.cell 0 rfl; have c1 := x0.cell 1 rfl; have c2 := x0.cell 2 rfl; have c3 := x0.cell 3 rfl; have c4 := x0.cell 4 rfl
  go_enter Try.func54, Try.ntmps54
  go_wp2_with fail
  refine (valid_any ar ap cr cp rs ps p0 way step W hR hP).mono ?_
  rintro e W1 ⟨rfl, hb1⟩
  rw [hv]
  (try clear c0 c1 c2 c3 c4); replace x0 := x0.below hb1; have c0 := x0.cell 0 rfl; have c1 := x0.cell 1 rfl; have c2 := x0.cell 2 rfl; have c3 := x0.cell 3 rfl; have c4 := x0.cell 4 rfl; replace hb := hb.trans (hb1.mono hb.size); clear hb1
  clear hW
  go_wp2_with (first | (go_at_call 72; refine (isFrom_any _ _ _ _).mono ?_; rintro e w' ⟨rfl, rfl⟩))
  exact bodyPost_ret (v := .tuple #[.int .i64 0, .int .i64 0, .int .i64 1]) (by simp [results, Try.results54, go_sem]) rfl ⟨rfl, hb⟩

set_option maxRecDepth 100000 in
set_option maxHeartbeats 4000000 in
theorem serviceOf_ok (ar ap : Option Addr) (cr cp : Nat) (rs ps : List (Int × Int)) (p0 way step : Int) (n : Int) (w : World) (hR : Prs w ar rs) (hP : Prs w ap ps) (hv : trB rs ps p0 way step = true) (hn : inR 0 n ((ps.length : Int) - 1) = true) (T : Tr) (hT : IsTr T rs ps p0 way step) (c : Car) (hc : c = runM T maxI) (x y : Int) (hxy : ps[n.toNat]? = some (x, y)) :
    Calls Try.prog 54 #[.agg #[.slice ar rs.length cr, .int .i64 p0, .int .i64 way, .int .i64 step, .slice ap ps.length cp], .int .i64 n] w fun e w' => e = .returned (.tuple #[.int .i64 (servF x y c.plays 0), .int .i64 ((c.plays.getD (servF x y c.plays 0).toNat (0, 0)).2 - y), .int .i64 0]) ∧ Below w.heap.size w w' := by
  have hmem := List.mem_of_getElem? hxy
  have hsd := all_served hT.hv (x, y) (by rw [hT.T2]; exact hmem)
  have hpr := hT.hv.pr (x, y) (by rw [hT.T2]; exact hmem)
  have hrg := (rng_run hT.hv (Int.le_refl maxI)).pb
  have hdo := fun W h1 h2 => deedsOf_any ar ap cr cp rs ps p0 way step W h1 h2 T hT
  unfold DeedP at hdo
  rw [← hc] at hdo hsd hrg
  clear hc
  have hsv : ∃ p ∈ c.plays, servB x y p = true := by
    obtain ⟨q, h1, h2, h3⟩ := hsd
    exact ⟨q, h1, by unfold servB; simp [h2, h3]⟩
  have hyb : 0 ≤ y ∧ y ≤ 1000000000 := by have h1 := hpr.2.2; dsimp only at h1; omega
  have hpb : ∀ p ∈ c.plays, 0 ≤ p.2 ∧ p.2 ≤ 1000000000 := fun p hp => by have := hrg p hp; omega
  have hse := fun x0 x1 x2 a cv s f W h => service_any x0 x1 x2 a cv c.plays s f x y W h hpb hyb hsv
  have hl := hP.1
  have hlI : (ps.length : Int) ≤ 4611686018427387903 := by omega
  have hn2 := inR_iff.1 hn
  obtain ⟨r1, hr1⟩ : ∃ r1, r1 = servF x y c.plays 0 := ⟨_, rfl⟩
  obtain ⟨r2, hr2⟩ : ∃ r2, r2 = (c.plays.getD (servF x y c.plays 0).toNat (0, 0)).2 - y := ⟨_, rfl⟩
  rw [← hr2, ← hr1] at hse ⊢
  clear hr1 hr2 hsv hyb hpb hpr hsd hrg hmem
  obtain ⟨k, rfl⟩ : ∃ k : Nat, n = (k : Int) := ⟨n.toNat, by omega⟩
  rw [Int.toNat_natCast] at hxy
  have hk : k < ps.length := by omega
  have hkI : (k : Int) < (ps.length : Int) := by omega
  have hk0 : (0 : Int) ≤ (k : Int) := by omega
  obtain ⟨W, hW, hb, hs, x0⟩ := boxes1 w #[.slice ar rs.length cr, .int .i64 p0, .int .i64 way, .int .i64 step, .slice ap ps.length cp] 25
  clear hs
  replace hR := hR.below hb (Nat.le_refl _); replace hP := hP.below hb (Nat.le_refl _)
  have c0 := x0.cell 0 rfl; have c1 := x0.cell 1 rfl; have c2 := x0.cell 2 rfl; have c3 := x0.cell 3 rfl; have c4 := x0.cell 4 rfl
  go_enter Try.func54, Try.ntmps54
  go_wp2_with fail
  refine (valid_any ar ap cr cp rs ps p0 way step W hR hP).mono ?_
  rintro e W1 ⟨rfl, hb1⟩
  rw [hv]
  clear hW
  replace hR := hR.below hb1 (Nat.le_refl _); replace hP := hP.below hb1 (Nat.le_refl _)
  (try clear c0 c1 c2 c3 c4); replace x0 := x0.below hb1; have c0 := x0.cell 0 rfl; have c1 := x0.cell 1 rfl; have c2 := x0.cell 2 rfl; have c3 := x0.cell 3 rfl; have c4 := x0.cell 4 rfl; replace hb := hb.trans (hb1.mono hb.size); clear hb1
  go_upto_region 5 with (first | (go_at_call 72; refine (isFrom_any _ _ _ _).mono ?_; rintro e w' ⟨rfl, rfl⟩))
  clear c0 c1 c2 c3 c4
  have hbd := (Below.refl W1.heap.size W1).drew
  replace hR := hR.below hbd (Nat.le_refl _); replace hP := hP.below hbd (Nat.le_refl _)
  replace x0 := x0.below hbd
  replace hb := hb.trans (hbd.mono hb.size)
  clear hbd
  obtain ⟨b, off, x', y', rfl, hbs, hc1, hc2, _, _, hx, _⟩ := hP.at hk
  have hxe := hx.out
  rw [hxy] at hxe
  simp only [Option.some.injEq, Prod.mk.injEq] at hxe
  obtain ⟨rfl, rfl⟩ := hxe
  clear hx hxy
  have S0 := And.intro x0 (And.intro hc1 hc2)
  refine wp_region_head 12 (fun w' => Bx w' w.heap.size #[.slice ar rs.length cr, .int .i64 p0, .int .i64 way, .int .i64 step, .slice (some ⟨b, off, none⟩) ps.length cp] 25 ∧ w'.cell? ⟨b, off + k * 2, none⟩ = some (.int .i64 x) ∧ w'.cell? ⟨b, off + k * 2 + 1, none⟩ = some (.int .i64 y)) (by kernel_rfl) rfl ?_
  generalize W1.drew = Y0 at *
  refine HeadAt.take (i := 0) (.agg #[.slice ar rs.length cr, .int .i64 p0, .int .i64 way, .int .i64 step, .slice (some ⟨b, off, none⟩) ps.length cp]) rfl (by kernel_rfl) (.inl ⟨rfl, fun w' z => ?_⟩) S0 ?_
  · (have z0 := z.1.cell 0 rfl; have z1 := z.1.cell 1 rfl; have z2 := z.1.cell 2 rfl; have z3 := z.1.cell 3 rfl; have z4 := z.1.cell 4 rfl; simp [go_sem, z0, z1, z2, z3, z4])
  refine HeadAt.take (i := 2) (.pointer (some ⟨w.heap.size, 4, none⟩)) rfl (by kernel_rfl) (.inl ⟨rfl, fun _ _ => by simp [go_sem]⟩) S0 ?_
  refine HeadAt.take (i := 3) (.slice (some ⟨b, off, none⟩) ps.length cp) rfl (by kernel_rfl) (.inl ⟨rfl, fun w' z => ?_⟩) S0 ?_
  · (have z4 := z.1.cell 4 rfl; simp [go_sem, z4])
  refine HeadAt.take (i := 4) (.int .i64 (k : Int)) rfl (by kernel_rfl) (.inl ⟨rfl, fun _ _ => by simp [go_sem]⟩) S0 ?_
  refine HeadAt.take (i := 5) (.pointer (some ⟨b, off + k * 2, none⟩)) rfl (by kernel_rfl) (.inl ⟨rfl, fun w' z => ?_⟩) S0 ?_
  · (simp [go_sem, hkI, hk0])
  refine HeadAt.take (i := 6) (.agg #[.int .i64 x, .int .i64 y]) rfl (by kernel_rfl) (.inl ⟨rfl, fun w' z => ?_⟩) S0 ?_
  · (obtain ⟨-, z1, z2⟩ := z; simp [go_sem, z1, z2])
  refine HeadAt.one (i := 1) rfl (by kernel_rfl) ?_
  generalize hK : Upto _ _ = K0
  (try simp only [Act.put, List.getElem_toArray, List.getElem_cons_succ, List.getElem_cons_zero, List.setIfInBounds_toArray, List.set_cons_succ, List.set_cons_zero])
  go_wp2_with fail
  refine (hdo _ hR hP).mono ?_
  rintro e W2 ⟨hb1, a, cv, rfl, hpr⟩
  replace S0 := And.intro (S0.1.below hb1) (And.intro (Below.keep hb1 S0.2.1) (Below.keep hb1 S0.2.2))
  replace hb := hb.trans (hb1.mono hb.size)
  clear hb1 hdo x0 hR hP hc1 hc2
  unfold deedV
  obtain ⟨d, hd⟩ : ∃ d : Int, d = if c.up then 1 else -1 := ⟨_, rfl⟩
  rw [← hd]
  clear hd
  go_wp2_with fail
  subst hK
  refine ⟨S0, ?_⟩
  refine HeadAt.one (i := 7) rfl (by kernel_rfl) ?_
  generalize hK : Upto _ _ = K0
  (try simp only [List.getElem_toArray, List.getElem_cons_succ, List.getElem_cons_zero])
  go_wp2_with fail
  refine (hse _ _ _ _ _ _ _ _ hpr).mono ?_
  rintro e W3 ⟨rfl, hb1⟩
  replace S0 := And.intro (S0.1.below hb1) (And.intro (Below.keep hb1 S0.2.1) (Below.keep hb1 S0.2.2))
  replace hb := hb.trans (hb1.mono hb.size)
  clear hb1 hse hpr
  go_wp2_with fail
  subst hK
  refine ⟨S0, ?_⟩
  refine HeadAt.take (i := 8) (.tuple #[.int .i64 r1, .int .i64 r2]) rfl (by kernel_rfl) (.inl ⟨rfl, fun _ _ => by simp [go_sem]⟩) S0 ?_
  refine HeadAt.take (i := 9) (.int .i64 r1) rfl (by kernel_rfl) (.inl ⟨rfl, fun _ _ => by simp [go_sem]⟩) S0 ?_
  refine HeadAt.take (i := 10) (.int .i64 r2) rfl (by kernel_rfl) (.inl ⟨rfl, fun _ _ => by simp [go_sem]⟩) S0 ?_
  refine HeadAt.take (i := 11) (.int .i64 r1) rfl (by kernel_rfl) (.inl ⟨rfl, fun _ _ => by simp [go_sem]⟩) S0 ?_
  refine HeadAt.done (by kernel_rfl) ?_
  (try simp only [Act.put, List.drop_succ_cons, List.drop_zero, List.getElem_toArray, List.getElem_cons_succ, List.getElem_cons_zero])
  clear S0
  go_wp2_with fail
  refine NoPanic.normal ?_
  go_wp2
  exact bodyPost_ret (v := .tuple #[.int .i64 r1, .int .i64 r2, .int .i64 0]) (by simp [results, Try.results54, go_sem]) rfl ⟨rfl, hb⟩
end Go.Proofs.Ytknaljghpfeikaa
