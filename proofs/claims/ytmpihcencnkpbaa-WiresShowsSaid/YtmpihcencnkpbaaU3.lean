import Derived.Test.YtmpihcencnkpbaaU2
import Derived.Test.YtmpihcencnkpbaaM3
/-! The reference's explained, truths, Many. -/
namespace Go.Proofs.Ytmpihcencnkpbaa
set_option linter.unusedSimpArgs false
set_option linter.unusedVariables false
open Go Go.RowKit

/-- Nothing beneath a world has changed. -/
def BlS (w0 w : World) : Prop := Below w0.heap.size w0 w
theorem rsets0_any {L N : Int} (hL : 1 ≤ L ∧ L ≤ 5) (hN : 1 ≤ N ∧ N ≤ 5) (aA : Option Addr) (cA m : Nat) (hm : m ≤ 3) (w : World) (h : Fz w aA (allF L N)) : Calls Try.prog 90 #[.slice aA (allF L N).length cA, .slice none 0 0, .int .i64 0, .int .i64 (m : Int)] w (LLP (rsL m [] (allF L N)) w) := by
  have := rsets_any aA cA (allF L N) (allF_len hL hN) m hm [] none 0 0 w h (Fy.nil w) (Nat.le_refl _) (Nat.zero_le _) (by simp; omega)
  simpa using this
set_option maxRecDepth 100000 in
set_option maxHeartbeats 6000000 in
theorem explained_any (L N : Int) (aP : Option Addr) (cP : Nat) (P : List F3) (F : Int) (m : Nat) (hm : m ≤ 3) (w : World) (hP : Fz w aP P) (hL : 1 ≤ L ∧ L ≤ 5) (hN : 1 ≤ N ∧ N ≤ 5) (hq : ∀ p ∈ P, (0 ≤ p.k ∧ p.k < L) ∧ (0 ≤ p.a ∧ p.a < N)) :
    Calls Try.prog 64 #[.agg #[.int .i64 L, .int .i64 N, .slice aP P.length cP, .int .i64 F], .int .i64 (m : Int)] w (LLP (xpR L N P m) w) := by
  obtain ⟨j0, hj0, jz0, jz1, jz2⟩ := info_parts info25
  obtain ⟨W, hW, hb, _, x0⟩ := boxes1 w #[.int .i64 L, .int .i64 N, .slice aP P.length cP, .int .i64 F] 24
  replace hP := hP.below hb (Nat.le_refl _)
  have hSL := rsL_len3 hm [] (allF L N) (allF_len hL hN)
  have haf := fun V => AllFaults_any L N aP cP P F V hL hN
  have hrs := fun a c V h => rsets0_any hL hN a c m hm V h
  have hst := fun s (hs : s ∈ rsL m [] (allF L N)) => ((setsL_mem hL hN).1 ((rs_mem hL hN).1 hs)).1
  have hex := fun (s : List F3) (hs : s ∈ rsL m [] (allF L N)) a c v (h1 : Fz v a s) (h2 : Fz v aP P) => IsExplained_any L N aP cP P F a c s v h1 h2 hL hN hq (fun f hf => Okf.of hL hN ((faultB_iff hL hN).1 ((setB_iff.1 (hst s hs)).1 f hf))) (hst s hs)
  unfold xpR
  have HEX := hid hex
  obtain ⟨T, hT⟩ : ∃ T, T = rsL m [] (allF L N) := ⟨_, rfl⟩
  rw [← hT] at hrs hSL HEX ⊢
  obtain ⟨AF, hAF⟩ : ∃ AF, AF = allF L N := ⟨_, rfl⟩
  rw [← hAF] at haf hrs
  unfold LFP at haf
  clear hT hex hst hq hL hN hAF
  have c0 := x0.cell 0 rfl; have c1 := x0.cell 1 rfl; have c2 := x0.cell 2 rfl; have c3 := x0.cell 3 rfl
  go_enter Try.func64, Try.ntmps64
  go_wp2_with fail
  refine (haf _).mono ?_
  rintro e W0 ⟨hb1, aA, cA, rfl, _, hfy⟩
  replace hb := hb.trans (hb1.mono hb.size)
  replace x0 := x0.below hb1
  replace hP := hP.below hb1 (Nat.le_refl _)
  clear hW hb1 c0 c1 c2 c3 haf
  have c0 := x0.cell 0 rfl; have c1 := x0.cell 1 rfl; have c2 := x0.cell 2 rfl; have c3 := x0.cell 3 rfl
  go_wp2_with fail
  refine (hrs _ _ _ hfy.1).mono ?_
  rintro e W1 ⟨hb1, aT, cT, rfl, hrat, _⟩
  obtain ⟨n, hn⟩ : ∃ n, n = T.length := ⟨_, rfl⟩
  rw [← hn] at hSL ⊢
  have HN := hid hn
  have hbw := hb.trans (hb1.mono hb.size)
  have hbs := hbw.size
  replace x0 := x0.below hb1
  have hPz := hP.below hb1 (Nat.le_refl _)
  clear hb hb1 c0 c1 c2 c3 hrs hn hfy hP
  go_wp2
  go_loopw [5, 7] (fun v5 v7 wr => ∃ (j q : Nat) (b : Option Addr) (d : Nat) (vs : List Value), j ≤ n ∧ Hid (q = ((T.take j).filter fun s => exB N s P).length) ∧ v7 = .int .i64 (j : Int) ∧ v5 = .slice b q d ∧ wr.ownsRow W1.heap.size 25 1 (.slice b q d) q vs ∧ Below W1.heap.size W1 wr ∧ Rws wr vs ((T.take j).filter fun s => exB N s P)) (fun _ v7 _ => n - (intOf v7).toNat)
  case atStart => exact ⟨0, 0, none, 0, [], Nat.zero_le _, hid rfl, rfl, rfl, World.ownsRow_nil _ _ _ _, Below.refl _ _, Rws.nil _⟩
  case round =>
    obtain ⟨j, q, b, d, vs, hj, hq, rfl, rfl, hown, hb, hrw⟩ := hrel
    by_cases hlt : j < n
    · have hqj : q ≤ j := by
        have h1 := List.length_filter_le (fun s => exB N s P) (T.take j)
        rw [List.length_take] at h1
        have := hq.out; omega
      obtain ⟨bR, oR, s, a', c', rfl, hbl, hc, hsc, hfy, hmem, _, htk⟩ := (hrat.below hb (Nat.le_refl _)).at (k := j) (by rw [← HN.out]; exact hlt)
      have hjI : (j : Int) < n := by omega
      have hz0 : (0 : Int) ≤ (j : Int) := by omega
      have hft := fun v h1 h2 => HEX.out s hmem a' c' v h1 h2
      obtain ⟨ls, hls⟩ : ∃ ls, ls = s.length := ⟨_, rfl⟩
      rw [← hls] at hft hc hsc
      have HLS := hid hls
      have hPr := hPz.below hb (Nat.le_refl _)
      have xr := x0.below hb
      have hcc : ClB wr bR (oR + j) (.slice a' ls c') := ⟨hc, hbl⟩
      have hbl1 : bR < W1.heap.size := by
        obtain ⟨b9, o9, _, _, _, e9, hl9, _⟩ := hrat.at (k := j) (by rw [← HN.out]; exact hlt)
        have e8 : bR = b9 := by cases e9; rfl
        rw [e8]; exact hl9
      have HCC := hid (fun (V : World) (h : Below W1.heap.size W1 V) => show ClB V bR (oR + j) (.slice a' ls c') ∧ True from ⟨⟨by rw [← hc, h.cell (p := ⟨bR, oR + j, none⟩) hbl1, hb.cell (p := ⟨bR, oR + j, none⟩) hbl1], by have := h.size; omega⟩, trivial⟩)
      clear hbl1
      clear hls hmem hc hbl
      cases hfb : exB N s P
      · rw [hfb] at hft
        have hgn := filter_no (p := fun s => exB N s P) (T := T.take j) hfb
        rw [← htk.out] at hgn
        have HG := hid hgn
        clear hgn htk hfb
        go_upto_region 6 with fail
        have S0 : BlS wr wr.drew := (Below.refl wr.heap.size wr).drew
        refine wp_region_head 5 (fun w' => BlS wr w') (by kernel_rfl) rfl ?_
        generalize wr.drew = Y0 at *
        refine HeadAt.take (i := 0) (.agg #[.int .i64 L, .int .i64 N, .slice aP P.length cP, .int .i64 F]) rfl (by kernel_rfl) (.inl ⟨rfl, fun w' z => ?_⟩) S0 ?_
        · (have z0 := (xr.below z).cell 0 rfl; have z1 := (xr.below z).cell 1 rfl; have z2 := (xr.below z).cell 2 rfl; have z3 := (xr.below z).cell 3 rfl; simp [go_sem, z0, z1, z2, z3])
        (try simp only [Act.put, List.getElem_toArray, List.getElem_cons_succ, List.getElem_cons_zero, List.setIfInBounds_toArray, List.set_cons_succ, List.set_cons_zero])
        refine HeadAt.take (i := 1) (.slice (some ⟨bR, oR, none⟩) n cT) rfl (by kernel_rfl) (.inl ⟨rfl, fun _ _ => by simp [go_sem]⟩) S0 ?_
        (try simp only [Act.put, List.getElem_toArray, List.getElem_cons_succ, List.getElem_cons_zero, List.setIfInBounds_toArray, List.set_cons_succ, List.set_cons_zero])
        refine HeadAt.take (i := 2) (.int .i64 (j : Int)) rfl (by kernel_rfl) (.inl ⟨rfl, fun _ _ => by simp [go_sem]⟩) S0 ?_
        (try simp only [Act.put, List.getElem_toArray, List.getElem_cons_succ, List.getElem_cons_zero, List.setIfInBounds_toArray, List.set_cons_succ, List.set_cons_zero])
        refine HeadAt.take (i := 3) (.pointer (some ⟨bR, oR + j, none⟩)) rfl (by kernel_rfl) (.inl ⟨rfl, fun w' z => ?_⟩) S0 ?_
        · (simp [go_sem, hjI, hz0])
        (try simp only [Act.put, List.getElem_toArray, List.getElem_cons_succ, List.getElem_cons_zero, List.setIfInBounds_toArray, List.set_cons_succ, List.set_cons_zero])
        refine HeadAt.take (i := 4) (.slice a' ls c') rfl (by kernel_rfl) (.inl ⟨rfl, fun w' z => ?_⟩) S0 ?_
        · (have z0 := (hcc.below z).1; simp [go_sem, z0])
        (try simp only [Act.put, List.getElem_toArray, List.getElem_cons_succ, List.getElem_cons_zero, List.setIfInBounds_toArray, List.set_cons_succ, List.set_cons_zero])
        refine HeadAt.done (by kernel_rfl) ?_
        (try simp only [Act.put, List.drop_succ_cons, List.drop_zero, List.getElem_toArray, List.getElem_cons_succ, List.getElem_cons_zero])
        have hbd : Below wr.heap.size wr Y0 := S0
        replace hown := own_below2 hown hbd
        replace hrw := hrw.below hbd (Nat.le_refl _)
        replace hb := hb.trans (hbd.mono hb.size)
        replace hfy := hfy.below hbd (Nat.le_refl _)
        replace hPr := hPr.below hbd (Nat.le_refl _)
        clear S0 hbd xr hcc
        go_wp2_with fail
        refine (hft _ hfy.1 hPr).mono ?_
        rintro e V1 ⟨rfl, hb3⟩
        replace hown := own_below2 hown hb3
        replace hrw := hrw.below hb3 (Nat.le_refl _)
        replace hb := hb.trans (hb3.mono hb.size)
        replace hfy := hfy.below hb3 (Nat.le_refl _)
        clear hft hb3 hPr
        clear hfy
        go_wp2_with fail
        refine NoPanic.normal ?_
        have HX := hid (And.intro hown (And.intro hrw hb))
        clear hown hrw hb
        go_wp2
        go_roundw
        case rel =>
          obtain ⟨hown, hrw, hb⟩ := HX.out
          exact ⟨j + 1, q, b, d, vs, by omega, hid (by rw [HG.out]; exact hq.out), by go_num, rfl, hown, hb, by rw [HG.out]; exact hrw⟩
        case measure => simp [intOf]; omega
      · rw [hfb] at hft
        have hgn := filter_yes (p := fun s => exB N s P) (T := T.take j) hfb
        rw [← htk.out] at hgn
        have HG := hid hgn
        clear hgn htk hfb
        go_upto_region 6 with fail
        have S0 : BlS wr wr.drew := (Below.refl wr.heap.size wr).drew
        refine wp_region_head 5 (fun w' => BlS wr w') (by kernel_rfl) rfl ?_
        generalize wr.drew = Y0 at *
        refine HeadAt.take (i := 0) (.agg #[.int .i64 L, .int .i64 N, .slice aP P.length cP, .int .i64 F]) rfl (by kernel_rfl) (.inl ⟨rfl, fun w' z => ?_⟩) S0 ?_
        · (have z0 := (xr.below z).cell 0 rfl; have z1 := (xr.below z).cell 1 rfl; have z2 := (xr.below z).cell 2 rfl; have z3 := (xr.below z).cell 3 rfl; simp [go_sem, z0, z1, z2, z3])
        (try simp only [Act.put, List.getElem_toArray, List.getElem_cons_succ, List.getElem_cons_zero, List.setIfInBounds_toArray, List.set_cons_succ, List.set_cons_zero])
        refine HeadAt.take (i := 1) (.slice (some ⟨bR, oR, none⟩) n cT) rfl (by kernel_rfl) (.inl ⟨rfl, fun _ _ => by simp [go_sem]⟩) S0 ?_
        (try simp only [Act.put, List.getElem_toArray, List.getElem_cons_succ, List.getElem_cons_zero, List.setIfInBounds_toArray, List.set_cons_succ, List.set_cons_zero])
        refine HeadAt.take (i := 2) (.int .i64 (j : Int)) rfl (by kernel_rfl) (.inl ⟨rfl, fun _ _ => by simp [go_sem]⟩) S0 ?_
        (try simp only [Act.put, List.getElem_toArray, List.getElem_cons_succ, List.getElem_cons_zero, List.setIfInBounds_toArray, List.set_cons_succ, List.set_cons_zero])
        refine HeadAt.take (i := 3) (.pointer (some ⟨bR, oR + j, none⟩)) rfl (by kernel_rfl) (.inl ⟨rfl, fun w' z => ?_⟩) S0 ?_
        · (simp [go_sem, hjI, hz0])
        (try simp only [Act.put, List.getElem_toArray, List.getElem_cons_succ, List.getElem_cons_zero, List.setIfInBounds_toArray, List.set_cons_succ, List.set_cons_zero])
        refine HeadAt.take (i := 4) (.slice a' ls c') rfl (by kernel_rfl) (.inl ⟨rfl, fun w' z => ?_⟩) S0 ?_
        · (have z0 := (hcc.below z).1; simp [go_sem, z0])
        (try simp only [Act.put, List.getElem_toArray, List.getElem_cons_succ, List.getElem_cons_zero, List.setIfInBounds_toArray, List.set_cons_succ, List.set_cons_zero])
        refine HeadAt.done (by kernel_rfl) ?_
        (try simp only [Act.put, List.drop_succ_cons, List.drop_zero, List.getElem_toArray, List.getElem_cons_succ, List.getElem_cons_zero])
        have hbd : Below wr.heap.size wr Y0 := S0
        replace hown := own_below2 hown hbd
        replace hrw := hrw.below hbd (Nat.le_refl _)
        replace hb := hb.trans (hbd.mono hb.size)
        replace hfy := hfy.below hbd (Nat.le_refl _)
        replace hPr := hPr.below hbd (Nat.le_refl _)
        clear S0 hbd xr hcc
        go_wp2_with fail
        refine (hft _ hfy.1 hPr).mono ?_
        rintro e V1 ⟨rfl, hb3⟩
        replace hown := own_below2 hown hb3
        replace hrw := hrw.below hb3 (Nat.le_refl _)
        replace hb := hb.trans (hb3.mono hb.size)
        replace hfy := hfy.below hb3 (Nat.le_refl _)
        clear hft hb3 hPr
        go_wp2_with fail
        refine NoPanic.normal ?_
        have hcc : ClB V1 bR (oR + j) (.slice a' ls c') := (HCC.out V1 hb).1
        have hcl2 := hcc.1
        have hba := below_one (w := V1) (.cells #[.slice a' ls c'] 25)
        have hcl := Cls.of_bx (Bx.new V1 #[.slice a' ls c'] 25)
        replace hown := own_below2 hown hba
        replace hrw := hrw.below hba (Nat.le_refl _)
        replace hfy := hfy.below hba (Nat.le_refl _)
        have hbV := hb
        replace hb := hb.trans (hba.mono hb.size)
        have hge := own_ge2 hown
        have hoth := Oth.of_own hown
        have hsz := hb.size
        clear hba hcc
        go_wp2_with (at_builtin; refine wpList_appAt rfl (.tmp 24) (.tmp 29) 67 rfl W1.heap.size 25 j0 (.slice none 0 0) 1 24 under67 hj0 jz0 jz1 jz2 rfl (by decide) (.slice b q d) q vs rfl hown (some ⟨V1.heap.size, 0, none⟩) 1 1 [.slice a' ls c'] rfl rfl hcl (by simp; rfl) (by unfold maxLen; omega) (by omega) hsz ?_; intro v3 W3 hown3 hg3 hat)
        obtain ⟨a3, c3, rfl⟩ := own_slice2 hown3
        have hb3 := hb.grown hg3 hsz hge
        have hrw3 : Rws W3 (vs ++ [.slice a' ls c']) ((T.take (j + 1)).filter fun s => exB N s P) := by
          rw [HG.out]
          have hs1 : Rws W3 [.slice a' s.length c'] [s] := Rws.single (hfy.gro hg3 hoth) (by rw [← HLS.out]; exact hsc)
          rw [← HLS.out] at hs1
          exact (hrw.gro hg3 hoth).app hs1
        have hq3 := hid (show q + 1 = ((T.take (j + 1)).filter fun s => exB N s P).length by rw [HG.out, List.length_append, ← hq.out]; rfl)
        have HX := hid (And.intro hown3 (And.intro hrw3 hb3))
        clear hown hrw hrw3 hown3 hb3 hfy hb hat hg3 hcl hoth hge hq HG hcl2 hbV
        go_wp2
        go_roundw
        case rel =>
          obtain ⟨hown, hrw, hb⟩ := HX.out
          exact ⟨j + 1, q + 1, a3, c3, vs ++ [.slice a' ls c'], by omega, hq3, by go_num, rfl, hown, hb, hrw⟩
        case measure => simp [intOf]; omega
    · obtain rfl : j = n := by omega
      have e : T.take j = T := by rw [HN.out, List.take_length]
      have hq2 := hq.out
      rw [e] at hrw hq2
      have hres : LLP (T.filter fun s => exB N s P) w (.returned (.slice b q d)) wr := by
        subst hq2
        exact ⟨hbw.trans (hb.mono hbs), b, d, rfl, Rat.of_own hown hrw, fun ad e => Nat.le_trans hbs (own_new2 hown ad e)⟩
      have HR := hid hres
      have hjI : ¬ (j : Int) < (j : Int) := by omega
      clear hres hown hrw e hq hq2
      go_wp2
      go_ret
      exact HR.out


/-- What truths hands back. -/
def rkT (L N : Int) (P : List F3) (F : Int) (o : Bool) : List (List F3) := if akE L N P F o = 0 then xpR L N P F.toNat else []
theorem rk_perm {L N F : Int} {P : List F3} {o : Bool} : (rkT L N P F o).Perm (akT L N P F o) := by
  unfold rkT akT
  by_cases h : akE L N P F o = 0
  · rw [if_pos h, if_pos h]
    obtain ⟨hL, hN, _⟩ := vB_siz (akE_ok h).1
    exact exR_perm hL hN P
  · rw [if_neg h, if_neg h]
def RkP (L N : Int) (P : List F3) (F : Int) (o : Bool) (w : World) (e : Ending) (w' : World) : Prop :=
  Below w.heap.size w w' ∧ ∃ (a : Option Addr) (c : Nat), e = .returned (.tuple #[.slice a (rkT L N P F o).length c, .int .i64 (akE L N P F o)]) ∧ Rat w' a (rkT L N P F o)
theorem rk_bad {L N F : Int} {P : List F3} {o : Bool} {w w' : World} {E : Int} (hb : Below w.heap.size w w') (hE : E ≠ 0) (h : akE L N P F o = E) : RkP L N P F o w (.returned (.tuple #[.slice none 0 0, .int .i64 E])) w' := by
  have h1 : rkT L N P F o = [] := by unfold rkT; rw [if_neg (by rw [h]; exact hE)]
  refine ⟨hb, none, 0, ?_, ?_⟩
  · rw [h1, h]; rfl
  · rw [h1]; exact Rat.nil _ _
theorem rk_good {L N F : Int} {P : List F3} {o : Bool} {w w' : World} {a : Option Addr} {n c : Nat} (hb : Below w.heap.size w w') (hn : n = (xpR L N P F.toNat).length) (hr : Rat w' a (xpR L N P F.toNat)) (h : akE L N P F o = 0) : RkP L N P F o w (.returned (.tuple #[.slice a n c, .int .i64 0])) w' := by
  have h1 : rkT L N P F o = xpR L N P F.toNat := by unfold rkT; rw [if_pos h]
  refine ⟨hb, a, c, ?_, by rw [h1]; exact hr⟩
  rw [h1, h, hn]
theorem akE_ck {L N F : Int} {P : List F3} {o : Bool} (h : vB L N P F = false) : akE L N P F o = 110 := by
  have : chE L N P F o = 110 := by unfold chE; rw [h]; rfl
  unfold akE; rw [this]; rfl
theorem akE_arg {L N F : Int} {P : List F3} (h : vB L N P F = true) : akE L N P F false = 1 := by
  have : chE L N P F false = 1 := by unfold chE; rw [h]; rfl
  unfold akE; rw [this]; rfl
theorem akE_3 {L N F : Int} {P : List F3} (h : vB L N P F = true) (he : xpR L N P F.toNat = []) : akE L N P F true = 3 := by
  obtain ⟨hL, hN, _⟩ := vB_siz h
  have : chE L N P F true = 0 := by unfold chE; rw [h]; rfl
  unfold akE; rw [if_pos this, if_pos ((tru_nil hL hN).1 he)]
theorem akE_0 {L N F : Int} {P : List F3} (h : vB L N P F = true) (he : xpR L N P F.toNat ≠ []) : akE L N P F true = 0 := by
  obtain ⟨hL, hN, _⟩ := vB_siz h
  have : chE L N P F true = 0 := by unfold chE; rw [h]; rfl
  unfold akE; rw [if_pos this, if_neg (fun e => he ((tru_nil hL hN).2 e))]
set_option maxRecDepth 100000 in
set_option maxHeartbeats 4000000 in
theorem rtruths_any (L N : Int) (aP : Option Addr) (cP : Nat) (P : List F3) (F : Int) (o : Bool) (w : World) (hP : Pz w aP P) : Calls Try.prog 66 #[.agg #[.int .i64 L, .int .i64 N, .slice aP P.length cP, .int .i64 F], .bool o] w (RkP L N P F o w) := by
  obtain ⟨W, hW, hb, _, x0⟩ := boxes1 w #[.int .i64 L, .int .i64 N, .slice aP P.length cP, .int .i64 F] 24
  replace hP := hP.below hb (Nat.le_refl _)
  have hck := fun V (h : Pz V aP P) => rCheck_any L N aP cP P F V h.2 h.1
  cases hv : vB L N P F with
  | false =>
    have hE := hid (akE_ck (o := o) hv)
    have hc : ckE L N P F = 110 := by unfold ckE; rw [hv]; rfl
    rw [hc] at hck
    clear hv hc
    have c0 := x0.cell 0 rfl; have c1 := x0.cell 1 rfl; have c2 := x0.cell 2 rfl; have c3 := x0.cell 3 rfl
    go_enter Try.func66, Try.ntmps66
    go_wp2_with fail
    refine (hck _ hP).mono ?_
    rintro e W1 ⟨rfl, hb1⟩
    have HR := hid (rk_bad (hb.trans (hb1.mono hb.size)) (by decide) hE.out)
    clear hW hb1 c0 c1 c2 c3 hck x0 hP hb
    go_wp2
    go_ret2
    exact HR.out
  | true =>
    have hc : ckE L N P F = 0 := by unfold ckE; rw [hv]; rfl
    rw [hc] at hck
    clear hc
    obtain ⟨hL, hN, hP8, hF3, _⟩ := vB_siz hv
    have hpr := vB_pr hv
    cases o with
    | false =>
      have hE := hid (akE_arg hv)
      clear hv
      have c0 := x0.cell 0 rfl; have c1 := x0.cell 1 rfl; have c2 := x0.cell 2 rfl; have c3 := x0.cell 3 rfl
      go_enter Try.func66, Try.ntmps66
      go_wp2_with fail
      refine (hck _ hP).mono ?_
      rintro e W1 ⟨rfl, hb1⟩
      have HR := hid (rk_bad (hb.trans (hb1.mono hb.size)) (by decide) hE.out)
      clear hW hb1 c0 c1 c2 c3 hck x0 hP hb hL hN hpr
      go_wp2
      go_ret2
      exact HR.out
    | true =>
      have hto := fun (m : Nat) (hm : m ≤ 3) v (h : Fz v aP P) => explained_any L N aP cP P F m hm v h hL hN hpr
      have hE3 := hid (fun h => akE_3 (F := F) hv h)
      have hE0 := hid (fun h => akE_0 (F := F) hv h)
      obtain ⟨f, rfl⟩ : ∃ f : Nat, F = (f : Int) := ⟨F.toNat, by omega⟩
      have hgd := fun w' a n c => rk_good (L := L) (N := N) (F := (f : Int)) (P := P) (o := true) (w := w) (w' := w') (a := a) (n := n) (c := c)
      have hgb := fun w' => rk_bad (L := L) (N := N) (F := (f : Int)) (P := P) (o := true) (w := w) (w' := w') (E := 3)
      rw [Int.toNat_natCast] at hE3 hE0 hgd
      replace hto := fun v h => hto f (by omega) v h
      obtain ⟨X, hX⟩ : ∃ X, X = xpR L N P f := ⟨_, rfl⟩
      rw [← hX] at hto hE3 hE0 hgd
      have HGD := hid hgd
      have HGB := hid hgb
      clear hv hL hN hpr hX hgd hgb
      have c0 := x0.cell 0 rfl; have c1 := x0.cell 1 rfl; have c2 := x0.cell 2 rfl; have c3 := x0.cell 3 rfl
      go_enter Try.func66, Try.ntmps66
      go_wp2_with fail
      refine (hck _ hP).mono ?_
      rintro e W1 ⟨rfl, hb1⟩
      replace hb := hb.trans (hb1.mono hb.size)
      replace x0 := x0.below hb1
      replace hP := hP.below hb1 (Nat.le_refl _)
      clear hW hb1 c0 c1 c2 c3 hck
      have c0 := x0.cell 0 rfl; have c1 := x0.cell 1 rfl; have c2 := x0.cell 2 rfl; have c3 := x0.cell 3 rfl
      go_wp2_with fail
      refine (hto _ (hP.2 (by omega))).mono ?_
      rintro e W2 ⟨hb1, a, c, rfl, hrat, _⟩
      replace hb := hb.trans (hb1.mono hb.size)
      clear hb1 c0 c1 c2 c3 x0 hP hto
      obtain ⟨n, hn⟩ : ∃ n, n = X.length := ⟨_, rfl⟩
      rw [← hn]
      by_cases h0 : n = 0
      · have hT : X = [] := List.eq_nil_of_length_eq_zero (by omega)
        have HR := hid (HGB.out W2 hb (by decide) (hE3.out hT))
        subst h0
        clear hn hT hrat hb hE3 hE0 HGD HGB
        go_wp2
        go_ret2
        exact HR.out
      · have hT : X ≠ [] := fun e => by rw [e] at hn; simp at hn; omega
        have HR := hid (HGD.out W2 a n c hb hn hrat (hE0.out hT))
        have hB : ((n : Int) == 0) = false := by rw [beq_eq_false_iff_ne]; omega
        clear hn hT hrat hb h0 hE3 hE0 HGD HGB
        go_wp2
        go_ret2
        exact HR.out

set_option maxRecDepth 100000 in
set_option maxHeartbeats 2000000 in
theorem rMany_any (L N : Int) (aP : Option Addr) (cP : Nat) (P : List F3) (F : Int) (w : World) (hP : Pz w aP P) : Calls Try.prog 30 #[.agg #[.int .i64 L, .int .i64 N, .slice aP P.length cP, .int .i64 F]] w fun e w' => e = .returned (.tuple #[.int .i64 ((akT L N P F true).length : Int), .int .i64 (akE L N P F true)]) ∧ Below w.heap.size w w' := by
  obtain ⟨W, hW, hb, _, x0⟩ := boxes1 w #[.int .i64 L, .int .i64 N, .slice aP P.length cP, .int .i64 F] 24
  replace hP := hP.below hb (Nat.le_refl _)
  have hak := rtruths_any L N aP cP P F true W hP
  unfold RkP at hak
  rw [(rk_perm (L := L) (N := N) (F := F) (P := P) (o := true)).length_eq] at hak
  generalize rkT L N P F true = T at *
  generalize (akT L N P F true).length = n at *
  generalize akE L N P F true = E at *
  have c0 := x0.cell 0 rfl; have c1 := x0.cell 1 rfl; have c2 := x0.cell 2 rfl; have c3 := x0.cell 3 rfl
  go_enter Try.func30, Try.ntmps30
  go_wp2_with fail
  refine hak.mono ?_
  rintro e W1 ⟨hb1, a, d, rfl, _⟩
  replace hb := hb.trans (hb1.mono hb.size)
  clear hW hb1 c0 c1 c2 c3 hak x0 hP
  go_wp2
  go_ret2
  exact ⟨rfl, hb⟩
end Go.Proofs.Ytmpihcencnkpbaa
