import Derived.Test.YtmpihcencnkpbaaU3
/-! The reference's tally. -/
namespace Go.Proofs.Ytmpihcencnkpbaa
set_option linter.unusedSimpArgs false
set_option linter.unusedVariables false
open Go Go.RowKit

theorem make_ints43 (n : Nat) (hn : n ≤ 1000) (w : World) : (Instr.makeSlice 43 (.int .i64 (n : Int)) (.int .i64 (n : Int))).run Try.prog w = .ok (.slice (some ⟨w.heap.size, 0, none⟩) n n) (w.alloc (.cells (vrow (List.replicate n 0)) 3)) := by
  obtain ⟨i0, hi, hz0, hz1, hz2⟩ := info_parts info3i
  have h := run_makeSlice (P := Try.prog) (w := w) 43 3 i0 (.int .i64 0) under43 hi hz0 .i64 .i64 (n : Int) (n : Int) (by omega) (Int.le_refl _) (by rw [hz1]; simp; omega) (by rw [hz2]; omega) (by omega)
  rw [hz1, Int.toNat_natCast] at h
  rw [h, ← made_ints n]
theorem tlV_nil (K : Nat) : tlV K [] = List.replicate (K + 1) 0 := by
  apply List.ext_getElem
  · simp [tlV]
  · intro i h1 h2; simp [tlV]
theorem tlV_snoc {K i : Nat} {Q : List Int} {x : Int} (hi : (i : Int) = x + 1) (h : i < K + 1) : (tlV K Q).set i ((Q.count x + 1 : Nat) : Int) = tlV K (Q ++ [x]) := by
  apply List.ext_getElem?
  intro j
  rw [List.getElem?_set]
  by_cases hj : j < K + 1
  · rw [tlV_get hj, tlV_get hj, tlV_len, List.count_append]
    by_cases e : i = j
    · subst e
      rw [if_pos rfl, if_pos h, show ((i : Nat) : Int) - 1 = x by omega]
      simp
    · rw [if_neg e]
      rw [List.count_singleton, if_neg (by simp; omega)]; simp
  · rw [List.getElem?_eq_none (by rw [tlV_len]; omega), List.getElem?_eq_none (by rw [tlV_len]; omega)]
    split
    · rw [if_neg (by rw [tlV_len]; omega)]
    · rfl
theorem plL_snoc (N : Int) (T : List (List F3)) (s : List F3) (l n : Int) : plL N (T ++ [s]) l n = plL N T l n ++ [plV N s l n] := by simp [plL]
theorem LN_25 {L N : Int} (hL : 1 ≤ L ∧ L ≤ 5) (hN : 1 ≤ N ∧ N ≤ 5) : 1 ≤ L * N ∧ L * N ≤ 25 := by
  rcases (show L = 1 ∨ L = 2 ∨ L = 3 ∨ L = 4 ∨ L = 5 by omega) with rfl | rfl | rfl | rfl | rfl <;> omega
/-- What tally hands back. -/
def TyP (V : List Int) (w : World) (e : Ending) (w' : World) : Prop := Below w.heap.size w w' ∧ ∃ g : Nat, e = .returned (.slice (some ⟨g, 0, none⟩) V.length V.length) ∧ Bx w' g (vrow V) 3
set_option maxRecDepth 100000 in
set_option maxHeartbeats 6000000 in
theorem tally_any (L N : Int) (aP : Option Addr) (cP : Nat) (P : List F3) (F : Int) (aT : Option Addr) (cT : Nat) (T : List (List F3)) (l k : Int) (w : World) (hT : Rat w aT T) (hL : 1 ≤ L ∧ L ≤ 5) (hN : 1 ≤ N ∧ N ≤ 5) (hl : 0 ≤ l ∧ l < L) (hk : 0 ≤ k ∧ k < N) (hS : ∀ s ∈ T, setB L N s = true) (hTl : T.length ≤ 900000) :
    Calls Try.prog 74 #[.agg #[.int .i64 L, .int .i64 N, .slice aP P.length cP, .int .i64 F], .slice aT T.length cT, .int .i64 l, .int .i64 k] w (TyP (tlV (L * N).toNat (plL N T l k)) w) := by
  obtain ⟨W, hW, hb, hs, x0⟩ := boxes1 w #[.int .i64 L, .int .i64 N, .slice aP P.length cP, .int .i64 F] 24
  have hO : ∀ s ∈ T, ∀ f ∈ s, Okf L N f := fun s hs f hf => Okf.of hL hN ((faultB_iff hL hN).1 ((setB_iff.1 (hS s hs)).1 f hf))
  have hpo := fun (s : List F3) (h : s ∈ T) a c v (hz : Fz v a s) => PlaysOf_any L N aP cP P F a c s l k v hz hL hN hl hk (hO s h) (hS s h)
  have hpr := fun (s : List F3) (h : s ∈ T) => plV_rng hN.1 (hO s h) hl hk
  obtain ⟨K, hK⟩ : ∃ K : Nat, (K : Int) = L * N := ⟨(L * N).toNat, by have := LN_25 hL hN; omega⟩
  have hK25 := LN_25 hL hN
  have hKn : (L * N).toNat = K := by omega
  rw [hKn]
  have hw1 : IntKind.i64.wrap (L * N) = (K : Int) := by rw [IntWalk.i64_in _ (by omega), hK]
  rw [← hK] at hK25 hpr
  have hw2 : IntKind.i64.wrap ((K : Int) + 1) = ((K + 1 : Nat) : Int) := by rw [IntWalk.i64_in _ (by omega)]; omega
  have hmk := make_ints43 (K + 1) (by omega)
  have hlen : ∀ Q, (tlV K Q).length = (K + 1) := fun Q => by rw [tlV_len]
  have hst := fun (i : Nat) (Q : List Int) (x : Int) (hi : (i : Int) = x + 1) (h : i < (K + 1)) => tlV_snoc (K := K) (Q := Q) (x := x) hi (by omega)
  have hgt := fun (i : Nat) (Q : List Int) (h : i < (K + 1)) => tlV_get (K := K) (Q := Q) (i := i) (by omega)
  have hnil : List.replicate (K + 1) 0 = tlV K [] := by rw [tlV_nil]
  obtain ⟨n, hn⟩ : ∃ n, n = T.length := ⟨_, rfl⟩
  rw [← hn] at hTl ⊢
  have HN := hid hn
  have HPO := hid hpo
  have HPR := hid hpr
  have HST := hid hst
  have HGT := hid hgt
  have HLE := hid hlen
  unfold TyP
  rw [hlen]
  rw [hnil] at hmk
  replace hmk := fun V => hmk V
  rw [show ((K + 1 : Nat) : Int) = (K : Int) + 1 by omega] at hmk
  clear hS hO hpo hpr hn hst hgt hnil hKn hK hlen hL hN hl hk
  have c0 := x0.cell 0 rfl; have c1 := x0.cell 1 rfl; have c2 := x0.cell 2 rfl; have c3 := x0.cell 3 rfl
  go_enter Try.func74, Try.ntmps74
  go_upto_region 2 with fail
  have hbb := below_one (w := W) (.cells (vrow (tlV K [])) 3)
  have y0 := Bx.new W (vrow (tlV K [])) 3
  replace x0 := x0.below hbb
  replace hb := hb.trans (hbb.mono hb.size)
  have hWs := hs
  clear hbb hW c0 c1 c2 c3 hmk
  rw [hs] at y0
  obtain ⟨sW, hsW⟩ : ∃ sW, sW = w.heap.size + 1 := ⟨_, rfl⟩
  rw [← hsW] at y0 ⊢
  have hsl : w.heap.size < sW := by omega
  generalize W.alloc _ = W1 at *
  clear hs hWs hsW
  replace y0 : Bx W1 sW (vrow (tlV K (plL N (T.take 0) l k))) 3 := y0
  clear hw1 hw2
  go_wp2
  go_loopg [10] n (fun g v10 wr => ∃ j : Nat, j + g = n ∧ v10 = .int .i64 (j : Int) ∧ Below w.heap.size w wr ∧ Bx wr sW (vrow (tlV K (plL N (T.take j) l k))) 3 ∧ Bx wr w.heap.size #[.int .i64 L, .int .i64 N, .slice aP P.length cP, .int .i64 F] 24)
  case atStart => exact ⟨0, by omega, rfl, hb, y0, x0⟩
  case round =>
    clear hb y0 x0
    obtain ⟨j, hjg, rfl, hb, y, xr⟩ := hrel
    cases gk with
    | zero =>
      obtain rfl : j = n := by omega
      have hjI : ¬ (j : Int) < (j : Int) := by omega
      have HY := hid (show Bx wr sW (vrow (tlV K (plL N T l k))) 3 by
        have h := y
        rw [HN.out, List.take_length] at h
        exact h)
      clear y xr
      go_wp2
      go_ret
      exact ⟨hb, sW, rfl, HY.out⟩
    | succ g =>
      have hjn : j < n := by omega
      obtain ⟨bR, oR, s, a', c', rfl, hbl, hc, hsc, hfy, hmem, hgt, htk⟩ := (hT.below hb (Nat.le_refl _)).at (k := j) (by rw [← HN.out]; exact hjn)
      have hjI : (j : Int) < n := by omega
      have hz0 : (0 : Int) ≤ (j : Int) := by omega
      have hps := plL_snoc N (T.take j) s l k
      rw [← htk.out] at hps
      have hcc : ClB wr bR (oR + j) (.slice a' s.length c') := ⟨hc, hbl⟩
      have hfs := hfy.1
      have hpo := HPO.out s hmem
      have hpr := HPR.out s hmem
      obtain ⟨ls, hls⟩ : ∃ ls, ls = s.length := ⟨_, rfl⟩
      rw [← hls] at hcc hpo
      obtain ⟨x, hx⟩ : ∃ x, x = plV N s l k := ⟨_, rfl⟩
      rw [← hx] at hpo hpr hps
      obtain ⟨i, hi⟩ : ∃ i : Nat, (i : Int) = x + 1 := ⟨(x + 1).toNat, by omega⟩
      have hi1 : i < (K + 1) := by omega
      obtain ⟨Q, hQ⟩ : ∃ Q, Q = plL N (T.take j) l k := ⟨_, rfl⟩
      rw [← hQ] at hps y
      have hg := HGT.out i Q hi1
      have hss := HST.out i Q x hi hi1
      rw [← hps] at hss
      have hcl : Q.count x ≤ Q.length := List.count_le_length
      have hQl : Q.length ≤ 900000 := by rw [hQ, plL, List.length_map, List.length_take]; omega
      rw [show ((i : Int) - 1) = x by omega] at hg
      obtain ⟨q, hq⟩ : ∃ q, q = Q.count x := ⟨_, rfl⟩
      rw [← hq] at hg hss hcl
      have hwx : IntKind.i64.wrap (x + 1) = (i : Int) := by rw [IntWalk.i64_in _ (by omega), hi]
      have hwq : IntKind.i64.wrap ((q : Int) + 1) = ((q + 1 : Nat) : Int) := by rw [IntWalk.i64_in _ (by omega)]; omega
      have hwj : IntKind.i64.wrap ((j : Int) + 1) = ((j + 1 : Nat) : Int) := by rw [IntWalk.i64_in _ (by omega)]; omega
      have hiI : (i : Int) < ((K + 1 : Nat) : Int) := by omega
      have hi0 : (0 : Int) ≤ (i : Int) := by omega
      have hiJ : (i : Int) < (K : Int) + 1 := by omega
      have HSS := hid hss
      have HGI := hid hg
      generalize tlV K Q = row at *
      clear hc hbl hsc hfy hmem hgt htk hls hx hq hQ hQl hcl hps hpr hss hg hi
      go_upto_region 5 with fail
      have S0 : BlS wr wr.drew := (Below.refl wr.heap.size wr).drew
      refine wp_region_head 13 (fun w' => BlS wr w') (by kernel_rfl) rfl ?_
      generalize wr.drew = Y0 at *
      refine HeadAt.take (i := 0) (.slice (some ⟨sW, 0, none⟩) (K + 1) (K + 1)) rfl (by kernel_rfl) (.inl ⟨rfl, fun _ _ => by simp [go_sem]⟩) S0 ?_
      (try simp only [Act.put, List.getElem_toArray, List.getElem_cons_succ, List.getElem_cons_zero, List.setIfInBounds_toArray, List.set_cons_succ, List.set_cons_zero])
      refine HeadAt.take (i := 1) (.agg #[.int .i64 L, .int .i64 N, .slice aP P.length cP, .int .i64 F]) rfl (by kernel_rfl) (.inl ⟨rfl, fun w' z => ?_⟩) S0 ?_
      · (have z0 := (xr.below z).cell 0 rfl; have z1 := (xr.below z).cell 1 rfl; have z2 := (xr.below z).cell 2 rfl; have z3 := (xr.below z).cell 3 rfl; simp [go_sem, z0, z1, z2, z3])
      (try simp only [Act.put, List.getElem_toArray, List.getElem_cons_succ, List.getElem_cons_zero, List.setIfInBounds_toArray, List.set_cons_succ, List.set_cons_zero])
      refine HeadAt.take (i := 2) (.slice (some ⟨bR, oR, none⟩) n cT) rfl (by kernel_rfl) (.inl ⟨rfl, fun _ _ => by simp [go_sem]⟩) S0 ?_
      (try simp only [Act.put, List.getElem_toArray, List.getElem_cons_succ, List.getElem_cons_zero, List.setIfInBounds_toArray, List.set_cons_succ, List.set_cons_zero])
      refine HeadAt.take (i := 3) (.int .i64 (j : Int)) rfl (by kernel_rfl) (.inl ⟨rfl, fun _ _ => by simp [go_sem]⟩) S0 ?_
      (try simp only [Act.put, List.getElem_toArray, List.getElem_cons_succ, List.getElem_cons_zero, List.setIfInBounds_toArray, List.set_cons_succ, List.set_cons_zero])
      refine HeadAt.take (i := 4) (.pointer (some ⟨bR, oR + j, none⟩)) rfl (by kernel_rfl) (.inl ⟨rfl, fun w' z => ?_⟩) S0 ?_
      · (simp [go_sem, hjI, hz0])
      (try simp only [Act.put, List.getElem_toArray, List.getElem_cons_succ, List.getElem_cons_zero, List.setIfInBounds_toArray, List.set_cons_succ, List.set_cons_zero])
      refine HeadAt.take (i := 5) (.slice a' ls c') rfl (by kernel_rfl) (.inl ⟨rfl, fun w' z => ?_⟩) S0 ?_
      · (have z0 := (hcc.below z).1; simp [go_sem, z0])
      (try simp only [Act.put, List.getElem_toArray, List.getElem_cons_succ, List.getElem_cons_zero, List.setIfInBounds_toArray, List.set_cons_succ, List.set_cons_zero])
      refine HeadAt.take (i := 6) (.int .i64 l) rfl (by kernel_rfl) (.inl ⟨rfl, fun _ _ => by simp [go_sem]⟩) S0 ?_
      (try simp only [Act.put, List.getElem_toArray, List.getElem_cons_succ, List.getElem_cons_zero, List.setIfInBounds_toArray, List.set_cons_succ, List.set_cons_zero])
      refine HeadAt.take (i := 7) (.int .i64 k) rfl (by kernel_rfl) (.inl ⟨rfl, fun _ _ => by simp [go_sem]⟩) S0 ?_
      (try simp only [Act.put, List.getElem_toArray, List.getElem_cons_succ, List.getElem_cons_zero, List.setIfInBounds_toArray, List.set_cons_succ, List.set_cons_zero])
      refine HeadAt.one (i := 8) rfl (by kernel_rfl) ?_
      generalize hK : Upto _ _ = K0
      (try simp only [Act.put, List.getElem_toArray, List.getElem_cons_succ, List.getElem_cons_zero, List.setIfInBounds_toArray, List.set_cons_succ, List.set_cons_zero])
      have hfs1 := hfs.below (show Below wr.heap.size wr Y0 from S0) (Nat.le_refl _)
      go_wp2_with fail
      refine (hpo _ _ _ hfs1).mono ?_
      rintro e V1 ⟨rfl, hb1⟩
      go_wp2_with fail
      have S1 : BlS wr V1 := Below.trans S0 (hb1.mono (Below.size S0))
      clear hb1 hpo hfs1 S0
      subst hK
      refine ⟨S1, ?_⟩
      have S0 := S1
      clear S1
      (try simp only [Act.put, List.getElem_toArray, List.getElem_cons_succ, List.getElem_cons_zero, List.setIfInBounds_toArray, List.set_cons_succ, List.set_cons_zero])
      refine HeadAt.take (i := 9) (.int .i64 (i : Int)) rfl (by kernel_rfl) (.inl ⟨rfl, fun w' z => ?_⟩) S0 ?_
      · (simp [go_sem, hwx])
      (try simp only [Act.put, List.getElem_toArray, List.getElem_cons_succ, List.getElem_cons_zero, List.setIfInBounds_toArray, List.set_cons_succ, List.set_cons_zero])
      refine HeadAt.take (i := 10) (.pointer (some ⟨sW, i, none⟩)) rfl (by kernel_rfl) (.inl ⟨rfl, fun w' z => ?_⟩) S0 ?_
      · (simp [go_sem, hiI, hiJ, hi0])
      (try simp only [Act.put, List.getElem_toArray, List.getElem_cons_succ, List.getElem_cons_zero, List.setIfInBounds_toArray, List.set_cons_succ, List.set_cons_zero])
      refine HeadAt.take (i := 11) (.int .i64 (q : Int)) rfl (by kernel_rfl) (.inl ⟨rfl, fun w' z => ?_⟩) S0 ?_
      · (have z0 := (y.below z).cell i (vrow_at HGI.out); simp [go_sem, z0])
      (try simp only [Act.put, List.getElem_toArray, List.getElem_cons_succ, List.getElem_cons_zero, List.setIfInBounds_toArray, List.set_cons_succ, List.set_cons_zero])
      refine HeadAt.take (i := 12) (.int .i64 ((q + 1 : Nat) : Int)) rfl (by kernel_rfl) (.inl ⟨rfl, fun w' z => ?_⟩) S0 ?_
      · (simp [go_sem, hwq])
      (try simp only [Act.put, List.getElem_toArray, List.getElem_cons_succ, List.getElem_cons_zero, List.setIfInBounds_toArray, List.set_cons_succ, List.set_cons_zero])
      refine HeadAt.done (by kernel_rfl) ?_
      (try simp only [Act.put, List.drop_succ_cons, List.drop_zero, List.getElem_toArray, List.getElem_cons_succ, List.getElem_cons_zero])
      replace hb := hb.trans ((show Below wr.heap.size wr V1 from S0).mono hb.size)
      replace y := y.below S0
      replace xr := xr.below S0
      clear S0 hcc hfs
      have f := y.free i
      have cy := y.cell i (vrow_at HGI.out)
      have y2 := y.set i (.int .i64 ((q + 1 : Nat) : Int))
      rw [vrow_set, HSS.out] at y2
      have x2 := xr.other (a := ⟨sW, i, none⟩) (by show w.heap.size ≠ sW; omega) (.int .i64 ((q + 1 : Nat) : Int))
      have b2 := hb.setCell (p := ⟨sW, i, none⟩) (by show w.heap.size ≤ sW; omega) (.int .i64 ((q + 1 : Nat) : Int))
      have HX := hid (And.intro b2 (And.intro y2 x2))
      clear y2 x2 b2 y xr hb
      go_wp2_with fail
      refine NoPanic.normal ?_
      go_wp2
      clear f cy
      go_roundg g
      case measure => omega
      case rel => exact ⟨j + 1, by omega, by go_num, HX.out.1, HX.out.2.1, HX.out.2.2⟩
end Go.Proofs.Ytmpihcencnkpbaa
