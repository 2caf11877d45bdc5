import Derived.Test.YtakodllejndfeaaT18
/-! RoyaltiesOnce. -/
namespace Go.Proofs.Ytakodllejndfeaa
set_option linter.unusedSimpArgs false
set_option linter.unusedVariables false
open Go Go.RowKit

theorem sanB_ok {n : Nat} {l : List Int} {most : Int} (hl : l.length = n) (h : ∀ x ∈ l, 0 ≤ x ∧ x ≤ most) : sanB n l most = true := by
  unfold sanB
  rw [decide_eq_true hl, Bool.true_and, List.all_eq_true]
  exact fun x hx => inI_iff.2 (h x hx)
theorem askE_v1 {p : Int} {S : List Sd} {O : List Int} (h : vB p S O = true) : askE p S O true = errO S := by
  unfold askE errO; rw [if_pos h, if_pos rfl]
/-- What is so of the shares of a royal. -/
structure OnceF (p : Int) (S : List Sd) (n : Nat) (L : List Int) (D : Int) (f : Nat → Int) (nm : Nat → Int) : Prop where
  get : ∀ i, i < n → L[i]? = some (f i)
  nn : ∀ i, i < n → 0 ≤ nm i ∧ nm i ≤ 59994000000
  fl : ∀ i, i < n → nm i / D ≤ f i ∧ f i ≤ nm i / D + 1
  wh : ∀ i, i < n → nm i % D = 0 → f i = nm i / D
  mo : ∀ i k, i < n → k < n → nm i < nm k → f i ≤ f k
  sum : sumR n f = p
  rng : ∀ i, i < n → 0 ≤ f i ∧ f i ≤ 9999
theorem once_of {p : Int} {S : List Sd} {O : List Int} (h : askE p S O true = 0) : OnceF p S O.length (shR p S O) (100 * alS S) (fun i => shV p (clL S O.length) (100 * alS S) O.length (i : Nat)) (fun i => p * clS S (i : Nat)) := by
  obtain ⟨hv, _, hal⟩ := askE_0 h
  have hV := vB_ok hv
  have hQ := qok_of hV hal hV.p0 hV.p9
  have hfv : ∀ i, i < O.length → flV p (clL S O.length) (100 * alS S) (i : Nat) = p * clS S (i : Nat) / (100 * alS S) := fun i hi => by
    unfold flV; rw [Int.toNat_natCast, clL_getD S hi]
  have hrv : ∀ i, i < O.length → rsV p (clL S O.length) (100 * alS S) (i : Nat) = p * clS S (i : Nat) % (100 * alS S) := fun i hi => by
    unfold rsV; rw [Int.toNat_natCast, clL_getD S hi]
  refine ⟨fun i hi => by rw [shR_ok h, shL_get _ _ _ hi], fun i hi => ?_, fun i hi => ?_, fun i hi hr => ?_, fun i k hi hk hlt => ?_, sh_sum hQ.toCOk, fun i hi => ?_⟩
  · have := hQ.mul hi
    rw [clL_getD S hi] at this
    exact this
  · have := shV_rng (P := p) (E := clL S O.length) (A := 100 * alS S) (n := O.length) (i : Nat)
    rw [hfv i hi] at this
    exact this
  · rw [← hrv i hi] at hr
    have := sh_whole hQ.toCOk hr
    rw [hfv i hi] at this
    exact this
  · refine sh_mono hQ.toCOk hi hk ?_
    rw [clL_getD S hi, clL_getD S hk]
    exact hlt
  · have hg : (shR p S O)[i]? = some (shV p (clL S O.length) (100 * alS S) O.length (i : Nat)) := by rw [shR_ok h, shL_get _ _ _ hi]
    exact shR_rng p S O _ (List.mem_of_getElem? hg)

set_option maxRecDepth 100000 in
set_option maxHeartbeats 8000000 in
theorem royaltiesOnce_any (p : Int) (aS aO : Option Addr) (cS cO : Nat) (S : List Sd) (O : List Int) (w : World) (hX : RyIn w aS aO p S O) : Calls Try.prog 3 #[.agg #[.int .i64 p, .slice aS S.length cS, .slice aO O.length cO]] w fun e w' => e = .returned (.bool true) ∧ Below w.heap.size w w' := by
  obtain ⟨W, hW, hb, _, x0⟩ := boxes1 w #[.int .i64 p, .slice aS S.length cS, .slice aO O.length cO] 25
  have hXW := hX.below hb (Nat.le_refl _)
  have hrd := ready_any p aS aO cS cO S O W hXW
  have hwk := fun V => works_any V
  cases hr : rdB p S O
  · rw [hr] at hrd
    have c0 := x0.cell 0 rfl; have c1 := x0.cell 1 rfl; have c2 := x0.cell 2 rfl
    go_enter Try.func3, Try.ntmps3
    go_wp2_with fail
    refine hrd.mono ?_
    rintro e W1 ⟨rfl, hb1⟩
    replace hb := hb.trans (hb1.mono hb.size)
    clear hb1 hrd hX hXW hW c0 c1 c2 x0 hr
    go_wp2_with fail
    refine (hwk _).mono ?_
    rintro e Vw ⟨rfl, hbw9⟩
    replace hb := hb.trans (hbw9.mono hb.size)
    go_wp2
    go_ret
    exact ⟨rfl, hb⟩
  · rw [hr] at hrd
    obtain ⟨hf, hv⟩ := rdB_ok hr
    have hV := vB_ok hv
    have hR := hXW.ry hf
    have hol := hR.ol
    have hEO := askE_v1 hv
    have h1 := fun V h => Shares_any p aS aO cS cO S O V h
    have h4 := fun V h => plain_any p aS aO cS cO S O (askE p S O true) V h hV
    rw [decide_eq_true hEO] at h4
    clear hr hf hXW hEO
    by_cases hE : askE p S O true = 0
    · skip
      have hlL := shR_len hE
      have hrL := shR_rng p S O
      have hF := once_of hE
      have hn6 := hV.n6
      have hpa := fun who V h => Part_any p aS aO cS cO S O who V h hV
      have hD := VOk.al hV
      have hD1 := (askE_0 hE).2.2
      rw [hE] at h1 h4
      clear hE hV hv
      generalize shR p S O = L at *
      obtain ⟨D, hDD⟩ : ∃ D, D = 100 * alS S := ⟨_, rfl⟩
      have hD0 : 0 < D := by omega
      have hD9 : D ≤ 6000000 := by omega
      simp only [← hDD] at hF hpa
      obtain ⟨nm, hnm⟩ : ∃ nm : Nat → Int, nm = fun i : Nat => p * clS S (i : Nat) := ⟨_, rfl⟩
      have hpa2 := fun (i : Nat) V h => by
        have := hpa (i : Int) V h
        rw [show p * clS S (i : Int) = nm i by rw [hnm]] at this
        exact this
      rw [← hnm] at hF
      generalize (fun i : Nat => shV p (clL S O.length) D O.length (i : Nat)) = f at *
      have s1 := fun a c V h => sane_any p aS aO cS cO S O a c L 9999 V h hol
      rw [sanB_ok hlL hrL] at s1
      rw [hlL] at h1 s1
      have HLL := hid hlL; have HF := hid hF
      clear hlL hrL hF hpa hDD hnm hD hD1
      obtain ⟨n, hn⟩ : ∃ n, n = O.length := ⟨_, rfl⟩
      rw [← hn] at h1 h4 s1 hrd hn6 hol x0 hW hpa2 HF ⊢
      have HN := hid hn
      clear hn
      have hnI : (n : Int) ≤ 6 := by omega
      have hn0 : ¬ (n : Int) < 0 := by omega
      have hDne : ¬ D = 0 := by omega
      have c0 := x0.cell 0 rfl; have c1 := x0.cell 1 rfl; have c2 := x0.cell 2 rfl
      go_enter Try.func3, Try.ntmps3
      go_wp2_with fail
      refine hrd.mono ?_
      rintro e W1 ⟨rfl, hb1⟩
      clear hrd hW hX
      clear c0 c1 c2
      replace x0 := x0.below hb1
      replace hR := hR.below hb1 (Nat.le_refl _)
      replace hb := hb.trans (hb1.mono hb.size)
      clear hb1
      have c0 := x0.cell 0 rfl; have c1 := x0.cell 1 rfl; have c2 := x0.cell 2 rfl
      go_wp2_with fail
      refine (h1 _ hR).mono ?_
      rintro e Vc2 ⟨aL, kL, rfl, hL, hb1⟩
      clear c0 c1 c2
      replace x0 := x0.below hb1
      replace hR := hR.below hb1 (Nat.le_refl _)
      replace hb := hb.trans (hb1.mono hb.size)
      clear hb1
      have c0 := x0.cell 0 rfl; have c1 := x0.cell 1 rfl; have c2 := x0.cell 2 rfl
      clear h1
      go_wp2_with fail
      refine (h4 _ hR).mono ?_
      rintro e Vc3 ⟨rfl, hb1⟩
      clear c0 c1 c2
      replace x0 := x0.below hb1
      replace hR := hR.below hb1 (Nat.le_refl _)
      replace hL := hL.below hb1 (Nat.le_refl _)
      replace hb := hb.trans (hb1.mono hb.size)
      clear hb1
      have c0 := x0.cell 0 rfl; have c1 := x0.cell 1 rfl; have c2 := x0.cell 2 rfl
      clear h4
      go_wp2_with fail
      refine (s1 _ _ _ hL).mono ?_
      rintro e Vc4 ⟨rfl, hb1⟩
      clear c0 c1 c2
      replace x0 := x0.below hb1
      replace hR := hR.below hb1 (Nat.le_refl _)
      replace hL := hL.below hb1 (Nat.le_refl _)
      replace hb := hb.trans (hb1.mono hb.size)
      clear hb1
      have c0 := x0.cell 0 rfl; have c1 := x0.cell 1 rfl; have c2 := x0.cell 2 rfl
      clear s1
      clear c0 c1 c2
      go_wp2
      go_loopw [5, 6] (fun v5 v6 wr => ∃ i : Nat, i ≤ n ∧ v6 = .int .i64 (i : Int) ∧ v5 = .int .i64 (sumR i f) ∧ Ints wr aL L ∧ Ry wr aS aO p S O ∧ Bx wr w.heap.size #[.int .i64 p, .slice aS S.length cS, .slice aO n cO] 25 ∧ Below w.heap.size w wr) (fun _ v6 _ => n - (intOf v6).toNat)
      case atStart => exact ⟨0, Nat.zero_le _, rfl, rfl, hL, hR, x0, hb⟩
      case round =>
        clear hL hR x0 hb
        obtain ⟨i, hi, rfl, rfl, hLi, hRi, x0i, hbi⟩ := hrel
        by_cases hlt : i < n
        · have hiI : (i : Int) < n := by omega
          have hi0 : (0 : Int) ≤ (i : Int) := by omega
          have hnn := HF.out.nn i hlt
          have hfl := HF.out.fl i hlt
          have hwh := HF.out.wh i hlt
          have hgt := HF.out.get i hlt
          have hrg := HF.out.rng i hlt
          have hss := sumR_succ i f
          have hsr := sumR_rng (k := i) (f := f) (b := 9999) (fun j hj => HF.out.rng j (by omega))
          have hpi := fun V h => hpa2 i V h
          have hmo := fun k hk h => HF.out.mo i k hlt hk h
          obtain ⟨N, hN⟩ : ∃ N, N = nm i := ⟨_, rfl⟩
          rw [← hN] at hnn hfl hwh hpi
          simp only [← hN] at hmo
          obtain ⟨s, hs⟩ : ∃ s, s = f i := ⟨_, rfl⟩
          rw [← hs] at hfl hwh hgt hrg hss
          simp only [← hs] at hmo
          have hdiv : N.tdiv D = N / D := Int.tdiv_eq_ediv_of_nonneg hnn.1
          have hmod : N.tmod D = N % D := Int.tmod_eq_emod_of_nonneg hnn.1
          have hr0 := Int.emod_nonneg N hDne
          have hr1 := Int.emod_lt_of_pos N hD0
          have hq0 := Int.ediv_nonneg hnn.1 (by omega : 0 ≤ D)
          obtain ⟨q, hq⟩ : ∃ q, q = N / D := ⟨_, rfl⟩
          obtain ⟨r, hr⟩ : ∃ r, r = N % D := ⟨_, rfl⟩
          rw [← hq] at hdiv hfl hwh hq0
          rw [← hr] at hmod hwh hr0 hr1
          have ewq : IntKind.i64.wrap q = q := IntWalk.i64_in _ (by omega)
          have ewr : IntKind.i64.wrap r = r := IntWalk.i64_in _ (by omega)
          have ewq1 : IntKind.i64.wrap (q + 1) = q + 1 := IntWalk.i64_in _ (by omega)
          have ews : IntKind.i64.wrap (sumR i f + s) = sumR i f + s := IntWalk.i64_in _ (by omega)
          have HSS := hid hss; have HMO := hid hmo; have HGT := hid hgt
          obtain ⟨sm, hsm⟩ : ∃ sm, sm = sumR i f := ⟨_, rfl⟩
          rw [← hsm] at ews HSS ⊢
          clear hss hmo hgt hN hs hq hr hsm hsr
          have c0 := x0i.cell 0 rfl; have c1 := x0i.cell 1 rfl; have c2 := x0i.cell 2 rfl
          go_wp2_with fail
          refine (hpi _ hRi).mono ?_
          rintro e Vp ⟨rfl, hb3⟩
          replace x0i := x0i.below hb3
          replace hRi := hRi.below hb3 (Nat.le_refl _)
          replace hLi := hLi.below hb3 (Nat.le_refl _)
          replace hbi := hbi.trans (hb3.mono hbi.size)
          clear hb3 hpi c0 c1 c2
          obtain ⟨b1, o1, s', rfl, _, q1, _, _, g1, _⟩ := hLi.at (k := i) (by rw [HLL.out, ← HN.out]; exact hlt)
          obtain rfl : s' = s := by have := g1.out; rw [HGT.out] at this; injection this with this; exact this.symm
          clear g1
          go_upto_region 15 with fail
          have hbd := (Below.refl Vp.heap.size Vp).drew
          have S0 := Below.keep hbd q1
          replace x0i := x0i.below hbd
          replace hRi := hRi.below hbd (Nat.le_refl _)
          replace hLi := hLi.below hbd (Nat.le_refl _)
          replace hbi := hbi.trans (hbd.mono hbi.size)
          clear q1 hbd
          go_cut [83] (fun v83 wx => v83 = .bool false ∧ Ints wx (some ⟨b1, o1, none⟩) L ∧ Ry wx aS aO p S O ∧ Bx wx w.heap.size #[.int .i64 p, .slice aS S.length cS, .slice aO n cO] 25 ∧ Below w.heap.size w wx)
          case first =>
            by_cases hr00 : r = 0
            · have hsq := hwh hr00
              have hBr : (r == 0) = true := by simp [hr00]
              have hBs : (s' != q) = false := by simp [hsq]
              refine wp_region_head 34 (fun w' => w'.cell? ⟨b1, o1 + i, none⟩ = some (.int .i64 s')) (by kernel_rfl) rfl ?_
              generalize Vp.drew = Y0 at *
              refine HeadAt.take (i := 0) (.slice (some ⟨b1, o1, none⟩) n kL) rfl (by kernel_rfl) (.inl ⟨rfl, fun _ _ => by simp [go_sem]⟩) S0 ?_
              (try simp only [Act.put, List.getElem_toArray, List.getElem_cons_succ, List.getElem_cons_zero, List.setIfInBounds_toArray, List.set_cons_succ, List.set_cons_zero])
              refine HeadAt.take (i := 1) (.int .i64 (i : Int)) rfl (by kernel_rfl) (.inl ⟨rfl, fun _ _ => by simp [go_sem]⟩) S0 ?_
              (try simp only [Act.put, List.getElem_toArray, List.getElem_cons_succ, List.getElem_cons_zero, List.setIfInBounds_toArray, List.set_cons_succ, List.set_cons_zero])
              refine HeadAt.take (i := 2) (.pointer (some ⟨b1, o1 + i, none⟩)) rfl (by kernel_rfl) (.inl ⟨rfl, fun w' z => ?_⟩) S0 ?_
              · (simp [go_sem, hiI, hi0])
              (try simp only [Act.put, List.getElem_toArray, List.getElem_cons_succ, List.getElem_cons_zero, List.setIfInBounds_toArray, List.set_cons_succ, List.set_cons_zero])
              refine HeadAt.take (i := 3) (.int .i64 s') rfl (by kernel_rfl) (.inl ⟨rfl, fun w' z => ?_⟩) S0 ?_
              · (simp [go_sem, z])
              (try simp only [Act.put, List.getElem_toArray, List.getElem_cons_succ, List.getElem_cons_zero, List.setIfInBounds_toArray, List.set_cons_succ, List.set_cons_zero])
              refine HeadAt.take (i := 4) (.int .i64 N) rfl (by kernel_rfl) (.inl ⟨rfl, fun _ _ => by simp [go_sem]⟩) S0 ?_
              (try simp only [Act.put, List.getElem_toArray, List.getElem_cons_succ, List.getElem_cons_zero, List.setIfInBounds_toArray, List.set_cons_succ, List.set_cons_zero])
              refine HeadAt.take (i := 5) (.int .i64 D) rfl (by kernel_rfl) (.inl ⟨rfl, fun _ _ => by simp [go_sem]⟩) S0 ?_
              (try simp only [Act.put, List.getElem_toArray, List.getElem_cons_succ, List.getElem_cons_zero, List.setIfInBounds_toArray, List.set_cons_succ, List.set_cons_zero])
              refine HeadAt.take (i := 6) (.int .i64 q) rfl (by kernel_rfl) (.inl ⟨rfl, fun w' z => ?_⟩) S0 ?_
              · (simp [go_sem, hdiv, ewq, hDne])
              (try simp only [Act.put, List.getElem_toArray, List.getElem_cons_succ, List.getElem_cons_zero, List.setIfInBounds_toArray, List.set_cons_succ, List.set_cons_zero])
              refine HeadAt.take (i := 7) (.bool false) rfl (by kernel_rfl) (.inl ⟨rfl, fun w' z => ?_⟩) S0 ?_
              · (simp [go_sem] <;> omega)
              (try simp only [Act.put, List.getElem_toArray, List.getElem_cons_succ, List.getElem_cons_zero, List.setIfInBounds_toArray, List.set_cons_succ, List.set_cons_zero])
              refine HeadAt.take (i := 8) (.bool false) rfl (by kernel_rfl) (.inl ⟨rfl, fun _ _ => by simp [go_sem]⟩) S0 ?_
              (try simp only [Act.put, List.getElem_toArray, List.getElem_cons_succ, List.getElem_cons_zero, List.setIfInBounds_toArray, List.set_cons_succ, List.set_cons_zero])
              refine HeadAt.take (i := 9) (.slice (some ⟨b1, o1, none⟩) n kL) rfl (by kernel_rfl) (.inl ⟨rfl, fun _ _ => by simp [go_sem]⟩) S0 ?_
              (try simp only [Act.put, List.getElem_toArray, List.getElem_cons_succ, List.getElem_cons_zero, List.setIfInBounds_toArray, List.set_cons_succ, List.set_cons_zero])
              refine HeadAt.take (i := 10) (.int .i64 (i : Int)) rfl (by kernel_rfl) (.inl ⟨rfl, fun _ _ => by simp [go_sem]⟩) S0 ?_
              (try simp only [Act.put, List.getElem_toArray, List.getElem_cons_succ, List.getElem_cons_zero, List.setIfInBounds_toArray, List.set_cons_succ, List.set_cons_zero])
              refine HeadAt.take (i := 11) (.pointer (some ⟨b1, o1 + i, none⟩)) rfl (by kernel_rfl) (.inl ⟨rfl, fun w' z => ?_⟩) S0 ?_
              · (simp [go_sem, hiI, hi0])
              (try simp only [Act.put, List.getElem_toArray, List.getElem_cons_succ, List.getElem_cons_zero, List.setIfInBounds_toArray, List.set_cons_succ, List.set_cons_zero])
              refine HeadAt.take (i := 12) (.int .i64 s') rfl (by kernel_rfl) (.inl ⟨rfl, fun w' z => ?_⟩) S0 ?_
              · (simp [go_sem, z])
              (try simp only [Act.put, List.getElem_toArray, List.getElem_cons_succ, List.getElem_cons_zero, List.setIfInBounds_toArray, List.set_cons_succ, List.set_cons_zero])
              refine HeadAt.take (i := 13) (.int .i64 N) rfl (by kernel_rfl) (.inl ⟨rfl, fun _ _ => by simp [go_sem]⟩) S0 ?_
              (try simp only [Act.put, List.getElem_toArray, List.getElem_cons_succ, List.getElem_cons_zero, List.setIfInBounds_toArray, List.set_cons_succ, List.set_cons_zero])
              refine HeadAt.take (i := 14) (.int .i64 D) rfl (by kernel_rfl) (.inl ⟨rfl, fun _ _ => by simp [go_sem]⟩) S0 ?_
              (try simp only [Act.put, List.getElem_toArray, List.getElem_cons_succ, List.getElem_cons_zero, List.setIfInBounds_toArray, List.set_cons_succ, List.set_cons_zero])
              refine HeadAt.take (i := 15) (.int .i64 q) rfl (by kernel_rfl) (.inl ⟨rfl, fun w' z => ?_⟩) S0 ?_
              · (simp [go_sem, hdiv, ewq, hDne])
              (try simp only [Act.put, List.getElem_toArray, List.getElem_cons_succ, List.getElem_cons_zero, List.setIfInBounds_toArray, List.set_cons_succ, List.set_cons_zero])
              refine HeadAt.take (i := 16) (.int .i64 (q + 1)) rfl (by kernel_rfl) (.inl ⟨rfl, fun w' z => ?_⟩) S0 ?_
              · (simp [go_sem, ewq1])
              (try simp only [Act.put, List.getElem_toArray, List.getElem_cons_succ, List.getElem_cons_zero, List.setIfInBounds_toArray, List.set_cons_succ, List.set_cons_zero])
              refine HeadAt.take (i := 17) (.bool false) rfl (by kernel_rfl) (.inl ⟨rfl, fun w' z => ?_⟩) S0 ?_
              · (simp [go_sem] <;> omega)
              (try simp only [Act.put, List.getElem_toArray, List.getElem_cons_succ, List.getElem_cons_zero, List.setIfInBounds_toArray, List.set_cons_succ, List.set_cons_zero])
              refine HeadAt.take (i := 18) (.bool false) rfl (by kernel_rfl) (.inl ⟨rfl, fun _ _ => by simp [go_sem]⟩) S0 ?_
              (try simp only [Act.put, List.getElem_toArray, List.getElem_cons_succ, List.getElem_cons_zero, List.setIfInBounds_toArray, List.set_cons_succ, List.set_cons_zero])
              refine HeadAt.take (i := 19) (.bool false) rfl (by kernel_rfl) (.inl ⟨rfl, fun _ _ => by simp [go_sem]⟩) S0 ?_
              (try simp only [Act.put, List.getElem_toArray, List.getElem_cons_succ, List.getElem_cons_zero, List.setIfInBounds_toArray, List.set_cons_succ, List.set_cons_zero])
              refine HeadAt.take (i := 20) (.int .i64 N) rfl (by kernel_rfl) (.inl ⟨rfl, fun _ _ => by simp [go_sem]⟩) S0 ?_
              (try simp only [Act.put, List.getElem_toArray, List.getElem_cons_succ, List.getElem_cons_zero, List.setIfInBounds_toArray, List.set_cons_succ, List.set_cons_zero])
              refine HeadAt.take (i := 21) (.int .i64 D) rfl (by kernel_rfl) (.inl ⟨rfl, fun _ _ => by simp [go_sem]⟩) S0 ?_
              (try simp only [Act.put, List.getElem_toArray, List.getElem_cons_succ, List.getElem_cons_zero, List.setIfInBounds_toArray, List.set_cons_succ, List.set_cons_zero])
              refine HeadAt.take (i := 22) (.int .i64 r) rfl (by kernel_rfl) (.inl ⟨rfl, fun w' z => ?_⟩) S0 ?_
              · (simp [go_sem, hmod, ewr, hDne])
              (try simp only [Act.put, List.getElem_toArray, List.getElem_cons_succ, List.getElem_cons_zero, List.setIfInBounds_toArray, List.set_cons_succ, List.set_cons_zero])
              refine HeadAt.take (i := 23) (.bool true) rfl (by kernel_rfl) (.inl ⟨rfl, fun w' z => ?_⟩) S0 ?_
              · (simp [go_sem, hBr])
              (try simp only [Act.put, List.getElem_toArray, List.getElem_cons_succ, List.getElem_cons_zero, List.setIfInBounds_toArray, List.set_cons_succ, List.set_cons_zero])
              refine HeadAt.take (i := 24) (.bool true) rfl (by kernel_rfl) (.inl ⟨rfl, fun _ _ => by simp [go_sem]⟩) S0 ?_
              (try simp only [Act.put, List.getElem_toArray, List.getElem_cons_succ, List.getElem_cons_zero, List.setIfInBounds_toArray, List.set_cons_succ, List.set_cons_zero])
              refine HeadAt.take (i := 25) (.slice (some ⟨b1, o1, none⟩) n kL) rfl (by kernel_rfl) (.inl ⟨rfl, fun _ _ => by simp [go_sem]⟩) S0 ?_
              (try simp only [Act.put, List.getElem_toArray, List.getElem_cons_succ, List.getElem_cons_zero, List.setIfInBounds_toArray, List.set_cons_succ, List.set_cons_zero])
              refine HeadAt.take (i := 26) (.int .i64 (i : Int)) rfl (by kernel_rfl) (.inl ⟨rfl, fun _ _ => by simp [go_sem]⟩) S0 ?_
              (try simp only [Act.put, List.getElem_toArray, List.getElem_cons_succ, List.getElem_cons_zero, List.setIfInBounds_toArray, List.set_cons_succ, List.set_cons_zero])
              refine HeadAt.take (i := 27) (.pointer (some ⟨b1, o1 + i, none⟩)) rfl (by kernel_rfl) (.inl ⟨rfl, fun w' z => ?_⟩) S0 ?_
              · (simp [go_sem, hiI, hi0])
              (try simp only [Act.put, List.getElem_toArray, List.getElem_cons_succ, List.getElem_cons_zero, List.setIfInBounds_toArray, List.set_cons_succ, List.set_cons_zero])
              refine HeadAt.take (i := 28) (.int .i64 s') rfl (by kernel_rfl) (.inl ⟨rfl, fun w' z => ?_⟩) S0 ?_
              · (simp [go_sem, z])
              (try simp only [Act.put, List.getElem_toArray, List.getElem_cons_succ, List.getElem_cons_zero, List.setIfInBounds_toArray, List.set_cons_succ, List.set_cons_zero])
              refine HeadAt.take (i := 29) (.int .i64 N) rfl (by kernel_rfl) (.inl ⟨rfl, fun _ _ => by simp [go_sem]⟩) S0 ?_
              (try simp only [Act.put, List.getElem_toArray, List.getElem_cons_succ, List.getElem_cons_zero, List.setIfInBounds_toArray, List.set_cons_succ, List.set_cons_zero])
              refine HeadAt.take (i := 30) (.int .i64 D) rfl (by kernel_rfl) (.inl ⟨rfl, fun _ _ => by simp [go_sem]⟩) S0 ?_
              (try simp only [Act.put, List.getElem_toArray, List.getElem_cons_succ, List.getElem_cons_zero, List.setIfInBounds_toArray, List.set_cons_succ, List.set_cons_zero])
              refine HeadAt.take (i := 31) (.int .i64 q) rfl (by kernel_rfl) (.inl ⟨rfl, fun w' z => ?_⟩) S0 ?_
              · (simp [go_sem, hdiv, ewq, hDne])
              (try simp only [Act.put, List.getElem_toArray, List.getElem_cons_succ, List.getElem_cons_zero, List.setIfInBounds_toArray, List.set_cons_succ, List.set_cons_zero])
              refine HeadAt.take (i := 32) (.bool false) rfl (by kernel_rfl) (.inl ⟨rfl, fun w' z => ?_⟩) S0 ?_
              · (simp [go_sem, hBs])
              (try simp only [Act.put, List.getElem_toArray, List.getElem_cons_succ, List.getElem_cons_zero, List.setIfInBounds_toArray, List.set_cons_succ, List.set_cons_zero])
              refine HeadAt.take (i := 33) (.bool false) rfl (by kernel_rfl) (.inl ⟨rfl, fun _ _ => by simp [go_sem]⟩) S0 ?_
              (try simp only [Act.put, List.getElem_toArray, List.getElem_cons_succ, List.getElem_cons_zero, List.setIfInBounds_toArray, List.set_cons_succ, List.set_cons_zero])
              refine HeadAt.done (by kernel_rfl) ?_
              (try simp only [Act.put, List.drop_succ_cons, List.drop_zero, List.getElem_toArray, List.getElem_cons_succ, List.getElem_cons_zero])
              go_wp2_with fail
              refine NoPanic.normal ?_
              go_wp2_with fail
              go_meet
              exact ⟨rfl, hLi, hRi, x0i, hbi⟩
            · have hBr : (r == 0) = false := by simp [hr00]
              refine wp_region_head 34 (fun w' => w'.cell? ⟨b1, o1 + i, none⟩ = some (.int .i64 s')) (by kernel_rfl) rfl ?_
              generalize Vp.drew = Y0 at *
              refine HeadAt.take (i := 0) (.slice (some ⟨b1, o1, none⟩) n kL) rfl (by kernel_rfl) (.inl ⟨rfl, fun _ _ => by simp [go_sem]⟩) S0 ?_
              (try simp only [Act.put, List.getElem_toArray, List.getElem_cons_succ, List.getElem_cons_zero, List.setIfInBounds_toArray, List.set_cons_succ, List.set_cons_zero])
              refine HeadAt.take (i := 1) (.int .i64 (i : Int)) rfl (by kernel_rfl) (.inl ⟨rfl, fun _ _ => by simp [go_sem]⟩) S0 ?_
              (try simp only [Act.put, List.getElem_toArray, List.getElem_cons_succ, List.getElem_cons_zero, List.setIfInBounds_toArray, List.set_cons_succ, List.set_cons_zero])
              refine HeadAt.take (i := 2) (.pointer (some ⟨b1, o1 + i, none⟩)) rfl (by kernel_rfl) (.inl ⟨rfl, fun w' z => ?_⟩) S0 ?_
              · (simp [go_sem, hiI, hi0])
              (try simp only [Act.put, List.getElem_toArray, List.getElem_cons_succ, List.getElem_cons_zero, List.setIfInBounds_toArray, List.set_cons_succ, List.set_cons_zero])
              refine HeadAt.take (i := 3) (.int .i64 s') rfl (by kernel_rfl) (.inl ⟨rfl, fun w' z => ?_⟩) S0 ?_
              · (simp [go_sem, z])
              (try simp only [Act.put, List.getElem_toArray, List.getElem_cons_succ, List.getElem_cons_zero, List.setIfInBounds_toArray, List.set_cons_succ, List.set_cons_zero])
              refine HeadAt.take (i := 4) (.int .i64 N) rfl (by kernel_rfl) (.inl ⟨rfl, fun _ _ => by simp [go_sem]⟩) S0 ?_
              (try simp only [Act.put, List.getElem_toArray, List.getElem_cons_succ, List.getElem_cons_zero, List.setIfInBounds_toArray, List.set_cons_succ, List.set_cons_zero])
              refine HeadAt.take (i := 5) (.int .i64 D) rfl (by kernel_rfl) (.inl ⟨rfl, fun _ _ => by simp [go_sem]⟩) S0 ?_
              (try simp only [Act.put, List.getElem_toArray, List.getElem_cons_succ, List.getElem_cons_zero, List.setIfInBounds_toArray, List.set_cons_succ, List.set_cons_zero])
              refine HeadAt.take (i := 6) (.int .i64 q) rfl (by kernel_rfl) (.inl ⟨rfl, fun w' z => ?_⟩) S0 ?_
              · (simp [go_sem, hdiv, ewq, hDne])
              (try simp only [Act.put, List.getElem_toArray, List.getElem_cons_succ, List.getElem_cons_zero, List.setIfInBounds_toArray, List.set_cons_succ, List.set_cons_zero])
              refine HeadAt.take (i := 7) (.bool false) rfl (by kernel_rfl) (.inl ⟨rfl, fun w' z => ?_⟩) S0 ?_
              · (simp [go_sem] <;> omega)
              (try simp only [Act.put, List.getElem_toArray, List.getElem_cons_succ, List.getElem_cons_zero, List.setIfInBounds_toArray, List.set_cons_succ, List.set_cons_zero])
              refine HeadAt.take (i := 8) (.bool false) rfl (by kernel_rfl) (.inl ⟨rfl, fun _ _ => by simp [go_sem]⟩) S0 ?_
              (try simp only [Act.put, List.getElem_toArray, List.getElem_cons_succ, List.getElem_cons_zero, List.setIfInBounds_toArray, List.set_cons_succ, List.set_cons_zero])
              refine HeadAt.take (i := 9) (.slice (some ⟨b1, o1, none⟩) n kL) rfl (by kernel_rfl) (.inl ⟨rfl, fun _ _ => by simp [go_sem]⟩) S0 ?_
              (try simp only [Act.put, List.getElem_toArray, List.getElem_cons_succ, List.getElem_cons_zero, List.setIfInBounds_toArray, List.set_cons_succ, List.set_cons_zero])
              refine HeadAt.take (i := 10) (.int .i64 (i : Int)) rfl (by kernel_rfl) (.inl ⟨rfl, fun _ _ => by simp [go_sem]⟩) S0 ?_
              (try simp only [Act.put, List.getElem_toArray, List.getElem_cons_succ, List.getElem_cons_zero, List.setIfInBounds_toArray, List.set_cons_succ, List.set_cons_zero])
              refine HeadAt.take (i := 11) (.pointer (some ⟨b1, o1 + i, none⟩)) rfl (by kernel_rfl) (.inl ⟨rfl, fun w' z => ?_⟩) S0 ?_
              · (simp [go_sem, hiI, hi0])
              (try simp only [Act.put, List.getElem_toArray, List.getElem_cons_succ, List.getElem_cons_zero, List.setIfInBounds_toArray, List.set_cons_succ, List.set_cons_zero])
              refine HeadAt.take (i := 12) (.int .i64 s') rfl (by kernel_rfl) (.inl ⟨rfl, fun w' z => ?_⟩) S0 ?_
              · (simp [go_sem, z])
              (try simp only [Act.put, List.getElem_toArray, List.getElem_cons_succ, List.getElem_cons_zero, List.setIfInBounds_toArray, List.set_cons_succ, List.set_cons_zero])
              refine HeadAt.take (i := 13) (.int .i64 N) rfl (by kernel_rfl) (.inl ⟨rfl, fun _ _ => by simp [go_sem]⟩) S0 ?_
              (try simp only [Act.put, List.getElem_toArray, List.getElem_cons_succ, List.getElem_cons_zero, List.setIfInBounds_toArray, List.set_cons_succ, List.set_cons_zero])
              refine HeadAt.take (i := 14) (.int .i64 D) rfl (by kernel_rfl) (.inl ⟨rfl, fun _ _ => by simp [go_sem]⟩) S0 ?_
              (try simp only [Act.put, List.getElem_toArray, List.getElem_cons_succ, List.getElem_cons_zero, List.setIfInBounds_toArray, List.set_cons_succ, List.set_cons_zero])
              refine HeadAt.take (i := 15) (.int .i64 q) rfl (by kernel_rfl) (.inl ⟨rfl, fun w' z => ?_⟩) S0 ?_
              · (simp [go_sem, hdiv, ewq, hDne])
              (try simp only [Act.put, List.getElem_toArray, List.getElem_cons_succ, List.getElem_cons_zero, List.setIfInBounds_toArray, List.set_cons_succ, List.set_cons_zero])
              refine HeadAt.take (i := 16) (.int .i64 (q + 1)) rfl (by kernel_rfl) (.inl ⟨rfl, fun w' z => ?_⟩) S0 ?_
              · (simp [go_sem, ewq1])
              (try simp only [Act.put, List.getElem_toArray, List.getElem_cons_succ, List.getElem_cons_zero, List.setIfInBounds_toArray, List.set_cons_succ, List.set_cons_zero])
              refine HeadAt.take (i := 17) (.bool false) rfl (by kernel_rfl) (.inl ⟨rfl, fun w' z => ?_⟩) S0 ?_
              · (simp [go_sem] <;> omega)
              (try simp only [Act.put, List.getElem_toArray, List.getElem_cons_succ, List.getElem_cons_zero, List.setIfInBounds_toArray, List.set_cons_succ, List.set_cons_zero])
              refine HeadAt.take (i := 18) (.bool false) rfl (by kernel_rfl) (.inl ⟨rfl, fun _ _ => by simp [go_sem]⟩) S0 ?_
              (try simp only [Act.put, List.getElem_toArray, List.getElem_cons_succ, List.getElem_cons_zero, List.setIfInBounds_toArray, List.set_cons_succ, List.set_cons_zero])
              refine HeadAt.take (i := 19) (.bool false) rfl (by kernel_rfl) (.inl ⟨rfl, fun _ _ => by simp [go_sem]⟩) S0 ?_
              (try simp only [Act.put, List.getElem_toArray, List.getElem_cons_succ, List.getElem_cons_zero, List.setIfInBounds_toArray, List.set_cons_succ, List.set_cons_zero])
              refine HeadAt.take (i := 20) (.int .i64 N) rfl (by kernel_rfl) (.inl ⟨rfl, fun _ _ => by simp [go_sem]⟩) S0 ?_
              (try simp only [Act.put, List.getElem_toArray, List.getElem_cons_succ, List.getElem_cons_zero, List.setIfInBounds_toArray, List.set_cons_succ, List.set_cons_zero])
              refine HeadAt.take (i := 21) (.int .i64 D) rfl (by kernel_rfl) (.inl ⟨rfl, fun _ _ => by simp [go_sem]⟩) S0 ?_
              (try simp only [Act.put, List.getElem_toArray, List.getElem_cons_succ, List.getElem_cons_zero, List.setIfInBounds_toArray, List.set_cons_succ, List.set_cons_zero])
              refine HeadAt.take (i := 22) (.int .i64 r) rfl (by kernel_rfl) (.inl ⟨rfl, fun w' z => ?_⟩) S0 ?_
              · (simp [go_sem, hmod, ewr, hDne])
              (try simp only [Act.put, List.getElem_toArray, List.getElem_cons_succ, List.getElem_cons_zero, List.setIfInBounds_toArray, List.set_cons_succ, List.set_cons_zero])
              refine HeadAt.take (i := 23) (.bool false) rfl (by kernel_rfl) (.inl ⟨rfl, fun w' z => ?_⟩) S0 ?_
              · (simp [go_sem, hBr])
              (try simp only [Act.put, List.getElem_toArray, List.getElem_cons_succ, List.getElem_cons_zero, List.setIfInBounds_toArray, List.set_cons_succ, List.set_cons_zero])
              refine HeadAt.take (i := 24) (.bool false) rfl (by kernel_rfl) (.inl ⟨rfl, fun _ _ => by simp [go_sem]⟩) S0 ?_
              (try simp only [Act.put, List.getElem_toArray, List.getElem_cons_succ, List.getElem_cons_zero, List.setIfInBounds_toArray, List.set_cons_succ, List.set_cons_zero])
              refine HeadAt.take (i := 25) undef rfl (by kernel_rfl) (.inr ⟨by kernel_rfl, rfl⟩) S0 ?_
              (try simp only [Act.put, List.getElem_toArray, List.getElem_cons_succ, List.getElem_cons_zero, List.setIfInBounds_toArray, List.set_cons_succ, List.set_cons_zero])
              refine HeadAt.take (i := 26) undef rfl (by kernel_rfl) (.inr ⟨by kernel_rfl, rfl⟩) S0 ?_
              (try simp only [Act.put, List.getElem_toArray, List.getElem_cons_succ, List.getElem_cons_zero, List.setIfInBounds_toArray, List.set_cons_succ, List.set_cons_zero])
              refine HeadAt.take (i := 27) undef rfl (by kernel_rfl) (.inr ⟨by kernel_rfl, rfl⟩) S0 ?_
              (try simp only [Act.put, List.getElem_toArray, List.getElem_cons_succ, List.getElem_cons_zero, List.setIfInBounds_toArray, List.set_cons_succ, List.set_cons_zero])
              refine HeadAt.take (i := 28) undef rfl (by kernel_rfl) (.inr ⟨by kernel_rfl, rfl⟩) S0 ?_
              (try simp only [Act.put, List.getElem_toArray, List.getElem_cons_succ, List.getElem_cons_zero, List.setIfInBounds_toArray, List.set_cons_succ, List.set_cons_zero])
              refine HeadAt.take (i := 29) undef rfl (by kernel_rfl) (.inr ⟨by kernel_rfl, rfl⟩) S0 ?_
              (try simp only [Act.put, List.getElem_toArray, List.getElem_cons_succ, List.getElem_cons_zero, List.setIfInBounds_toArray, List.set_cons_succ, List.set_cons_zero])
              refine HeadAt.take (i := 30) undef rfl (by kernel_rfl) (.inr ⟨by kernel_rfl, rfl⟩) S0 ?_
              (try simp only [Act.put, List.getElem_toArray, List.getElem_cons_succ, List.getElem_cons_zero, List.setIfInBounds_toArray, List.set_cons_succ, List.set_cons_zero])
              refine HeadAt.take (i := 31) undef rfl (by kernel_rfl) (.inr ⟨by kernel_rfl, rfl⟩) S0 ?_
              (try simp only [Act.put, List.getElem_toArray, List.getElem_cons_succ, List.getElem_cons_zero, List.setIfInBounds_toArray, List.set_cons_succ, List.set_cons_zero])
              refine HeadAt.take (i := 32) undef rfl (by kernel_rfl) (.inr ⟨by kernel_rfl, rfl⟩) S0 ?_
              (try simp only [Act.put, List.getElem_toArray, List.getElem_cons_succ, List.getElem_cons_zero, List.setIfInBounds_toArray, List.set_cons_succ, List.set_cons_zero])
              refine HeadAt.take (i := 33) (.bool false) rfl (by kernel_rfl) (.inl ⟨rfl, fun _ _ => by simp [go_sem]⟩) S0 ?_
              (try simp only [Act.put, List.getElem_toArray, List.getElem_cons_succ, List.getElem_cons_zero, List.setIfInBounds_toArray, List.set_cons_succ, List.set_cons_zero])
              refine HeadAt.done (by kernel_rfl) ?_
              (try simp only [Act.put, List.drop_succ_cons, List.drop_zero, List.getElem_toArray, List.getElem_cons_succ, List.getElem_cons_zero])
              go_wp2_with fail
              refine NoPanic.normal ?_
              go_wp2_with fail
              go_meet
              exact ⟨rfl, hLi, hRi, x0i, hbi⟩
          case rest =>
            rename_i wc
            clear hLi hRi x0i hbi S0 hwh hdiv hmod hr0 hr1 ewq ewr ewq1 hfl
            obtain ⟨rfl, hLc, hRc, x0c, hbc⟩ := hcut
            obtain ⟨b1', o1', s2, e1, _, q1, _, _, g1, _⟩ := hLc.at (k := i) (by rw [HLL.out, ← HN.out]; exact hlt)
            cases e1
            obtain rfl : s2 = s' := by have := g1.out; rw [HGT.out] at this; injection this with this; exact this.symm
            clear g1
            go_wp2
            clear q1
            go_loopw [9] (fun v9 wr => ∃ k : Nat, k ≤ n ∧ v9 = .int .i64 (k : Int) ∧ Below wc.heap.size wc wr) (fun v9 _ => n - (intOf v9).toNat)
            case atStart => exact ⟨0, Nat.zero_le _, rfl, Below.refl _ _⟩
            case round =>
              obtain ⟨k, hk, rfl, hb2⟩ := hrel
              have x0k := x0c.below hb2
              have hRk := hRc.below hb2 (Nat.le_refl _)
              have hLk := hLc.below hb2 (Nat.le_refl _)
              by_cases hltk : k < n
              · have hkI : (k : Int) < n := by omega
                have hk0 : (0 : Int) ≤ (k : Int) := by omega
                have hpk := fun V h => hpa2 k V h
                have hmk := HMO.out k hltk
                have hgk := HF.out.get k hltk
                obtain ⟨M, hM⟩ : ∃ M, M = nm k := ⟨_, rfl⟩
                rw [← hM] at hpk hmk
                obtain ⟨t, ht⟩ : ∃ t, t = f k := ⟨_, rfl⟩
                rw [← ht] at hmk hgk
                have HGK := hid hgk
                clear hM ht hgk
                have c0 := x0k.cell 0 rfl; have c1 := x0k.cell 1 rfl; have c2 := x0k.cell 2 rfl
                go_wp2_with fail
                refine (hpk _ hRk).mono ?_
                rintro e Vk ⟨rfl, hb3⟩
                replace hLk := hLk.below hb3 (Nat.le_refl _)
                replace hb2 := hb2.trans (hb3.mono hb2.size)
                clear hb3 hpk c0 c1 c2 x0k hRk
                obtain ⟨b1', o1', s3, e1, _, q1, _, _, g1, _⟩ := hLk.at (k := i) (by rw [HLL.out, ← HN.out]; exact hlt)
                cases e1
                obtain rfl : s3 = s2 := by have := g1.out; rw [HGT.out] at this; injection this with this; exact this.symm
                obtain ⟨b1', o1', t2, e1, _, q2, _, _, g2, _⟩ := hLk.at (k := k) (by rw [HLL.out, ← HN.out]; exact hltk)
                cases e1
                obtain rfl : t2 = t := by have := g2.out; rw [HGK.out] at this; injection this with this; exact this.symm
                clear g1 g2 hLk
                go_upto_region 22 with fail
                have hbd := (Below.refl Vk.heap.size Vk).drew
                have S0 := And.intro (Below.keep hbd q1) (Below.keep hbd q2)
                replace hb2 := hb2.trans (hbd.mono hb2.size)
                clear q1 q2 hbd
                by_cases hgt : N < M
                · have hst := hmk hgt
                  refine wp_region_head 13 (fun w' => w'.cell? ⟨b1, o1 + i, none⟩ = some (.int .i64 s3) ∧ w'.cell? ⟨b1, o1 + k, none⟩ = some (.int .i64 t2)) (by kernel_rfl) rfl ?_
                  generalize Vk.drew = Y0 at *
                  refine HeadAt.take (i := 0) (.int .i64 M) rfl (by kernel_rfl) (.inl ⟨rfl, fun _ _ => by simp [go_sem]⟩) S0 ?_
                  (try simp only [Act.put, List.getElem_toArray, List.getElem_cons_succ, List.getElem_cons_zero, List.setIfInBounds_toArray, List.set_cons_succ, List.set_cons_zero])
                  refine HeadAt.take (i := 1) (.int .i64 N) rfl (by kernel_rfl) (.inl ⟨rfl, fun _ _ => by simp [go_sem]⟩) S0 ?_
                  (try simp only [Act.put, List.getElem_toArray, List.getElem_cons_succ, List.getElem_cons_zero, List.setIfInBounds_toArray, List.set_cons_succ, List.set_cons_zero])
                  refine HeadAt.take (i := 2) (.bool true) rfl (by kernel_rfl) (.inl ⟨rfl, fun w' z => ?_⟩) S0 ?_
                  · (simp [go_sem, hgt])
                  (try simp only [Act.put, List.getElem_toArray, List.getElem_cons_succ, List.getElem_cons_zero, List.setIfInBounds_toArray, List.set_cons_succ, List.set_cons_zero])
                  refine HeadAt.take (i := 3) (.bool true) rfl (by kernel_rfl) (.inl ⟨rfl, fun _ _ => by simp [go_sem]⟩) S0 ?_
                  (try simp only [Act.put, List.getElem_toArray, List.getElem_cons_succ, List.getElem_cons_zero, List.setIfInBounds_toArray, List.set_cons_succ, List.set_cons_zero])
                  refine HeadAt.take (i := 4) (.slice (some ⟨b1, o1, none⟩) n kL) rfl (by kernel_rfl) (.inl ⟨rfl, fun _ _ => by simp [go_sem]⟩) S0 ?_
                  (try simp only [Act.put, List.getElem_toArray, List.getElem_cons_succ, List.getElem_cons_zero, List.setIfInBounds_toArray, List.set_cons_succ, List.set_cons_zero])
                  refine HeadAt.take (i := 5) (.int .i64 (k : Int)) rfl (by kernel_rfl) (.inl ⟨rfl, fun _ _ => by simp [go_sem]⟩) S0 ?_
                  (try simp only [Act.put, List.getElem_toArray, List.getElem_cons_succ, List.getElem_cons_zero, List.setIfInBounds_toArray, List.set_cons_succ, List.set_cons_zero])
                  refine HeadAt.take (i := 6) (.pointer (some ⟨b1, o1 + k, none⟩)) rfl (by kernel_rfl) (.inl ⟨rfl, fun w' z => ?_⟩) S0 ?_
                  · (simp [go_sem, hkI, hk0])
                  (try simp only [Act.put, List.getElem_toArray, List.getElem_cons_succ, List.getElem_cons_zero, List.setIfInBounds_toArray, List.set_cons_succ, List.set_cons_zero])
                  refine HeadAt.take (i := 7) (.int .i64 t2) rfl (by kernel_rfl) (.inl ⟨rfl, fun w' z => ?_⟩) S0 ?_
                  · (simp [go_sem, z.2])
                  (try simp only [Act.put, List.getElem_toArray, List.getElem_cons_succ, List.getElem_cons_zero, List.setIfInBounds_toArray, List.set_cons_succ, List.set_cons_zero])
                  refine HeadAt.take (i := 8) (.slice (some ⟨b1, o1, none⟩) n kL) rfl (by kernel_rfl) (.inl ⟨rfl, fun _ _ => by simp [go_sem]⟩) S0 ?_
                  (try simp only [Act.put, List.getElem_toArray, List.getElem_cons_succ, List.getElem_cons_zero, List.setIfInBounds_toArray, List.set_cons_succ, List.set_cons_zero])
                  refine HeadAt.take (i := 9) (.int .i64 (i : Int)) rfl (by kernel_rfl) (.inl ⟨rfl, fun _ _ => by simp [go_sem]⟩) S0 ?_
                  (try simp only [Act.put, List.getElem_toArray, List.getElem_cons_succ, List.getElem_cons_zero, List.setIfInBounds_toArray, List.set_cons_succ, List.set_cons_zero])
                  refine HeadAt.take (i := 10) (.pointer (some ⟨b1, o1 + i, none⟩)) rfl (by kernel_rfl) (.inl ⟨rfl, fun w' z => ?_⟩) S0 ?_
                  · (simp [go_sem, hiI, hi0])
                  (try simp only [Act.put, List.getElem_toArray, List.getElem_cons_succ, List.getElem_cons_zero, List.setIfInBounds_toArray, List.set_cons_succ, List.set_cons_zero])
                  refine HeadAt.take (i := 11) (.int .i64 s3) rfl (by kernel_rfl) (.inl ⟨rfl, fun w' z => ?_⟩) S0 ?_
                  · (simp [go_sem, z.1])
                  (try simp only [Act.put, List.getElem_toArray, List.getElem_cons_succ, List.getElem_cons_zero, List.setIfInBounds_toArray, List.set_cons_succ, List.set_cons_zero])
                  refine HeadAt.take (i := 12) (.bool false) rfl (by kernel_rfl) (.inl ⟨rfl, fun w' z => ?_⟩) S0 ?_
                  · (simp [go_sem] <;> omega)
                  (try simp only [Act.put, List.getElem_toArray, List.getElem_cons_succ, List.getElem_cons_zero, List.setIfInBounds_toArray, List.set_cons_succ, List.set_cons_zero])
                  refine HeadAt.done (by kernel_rfl) ?_
                  (try simp only [Act.put, List.drop_succ_cons, List.drop_zero, List.getElem_toArray, List.getElem_cons_succ, List.getElem_cons_zero])
                  go_wp2_with fail
                  refine NoPanic.normal ?_
                  go_wp2
                  go_roundw
                  case rel => exact ⟨k + 1, by omega, by simp, hb2⟩
                  case measure => simp [intOf]; omega
                · skip
                  refine wp_region_head 13 (fun w' => w'.cell? ⟨b1, o1 + i, none⟩ = some (.int .i64 s3) ∧ w'.cell? ⟨b1, o1 + k, none⟩ = some (.int .i64 t2)) (by kernel_rfl) rfl ?_
                  generalize Vk.drew = Y0 at *
                  refine HeadAt.take (i := 0) (.int .i64 M) rfl (by kernel_rfl) (.inl ⟨rfl, fun _ _ => by simp [go_sem]⟩) S0 ?_
                  (try simp only [Act.put, List.getElem_toArray, List.getElem_cons_succ, List.getElem_cons_zero, List.setIfInBounds_toArray, List.set_cons_succ, List.set_cons_zero])
                  refine HeadAt.take (i := 1) (.int .i64 N) rfl (by kernel_rfl) (.inl ⟨rfl, fun _ _ => by simp [go_sem]⟩) S0 ?_
                  (try simp only [Act.put, List.getElem_toArray, List.getElem_cons_succ, List.getElem_cons_zero, List.setIfInBounds_toArray, List.set_cons_succ, List.set_cons_zero])
                  refine HeadAt.take (i := 2) (.bool false) rfl (by kernel_rfl) (.inl ⟨rfl, fun w' z => ?_⟩) S0 ?_
                  · (simp [go_sem] <;> omega)
                  (try simp only [Act.put, List.getElem_toArray, List.getElem_cons_succ, List.getElem_cons_zero, List.setIfInBounds_toArray, List.set_cons_succ, List.set_cons_zero])
                  refine HeadAt.take (i := 3) (.bool false) rfl (by kernel_rfl) (.inl ⟨rfl, fun _ _ => by simp [go_sem]⟩) S0 ?_
                  (try simp only [Act.put, List.getElem_toArray, List.getElem_cons_succ, List.getElem_cons_zero, List.setIfInBounds_toArray, List.set_cons_succ, List.set_cons_zero])
                  refine HeadAt.take (i := 4) undef rfl (by kernel_rfl) (.inr ⟨by kernel_rfl, rfl⟩) S0 ?_
                  (try simp only [Act.put, List.getElem_toArray, List.getElem_cons_succ, List.getElem_cons_zero, List.setIfInBounds_toArray, List.set_cons_succ, List.set_cons_zero])
                  refine HeadAt.take (i := 5) undef rfl (by kernel_rfl) (.inr ⟨by kernel_rfl, rfl⟩) S0 ?_
                  (try simp only [Act.put, List.getElem_toArray, List.getElem_cons_succ, List.getElem_cons_zero, List.setIfInBounds_toArray, List.set_cons_succ, List.set_cons_zero])
                  refine HeadAt.take (i := 6) undef rfl (by kernel_rfl) (.inr ⟨by kernel_rfl, rfl⟩) S0 ?_
                  (try simp only [Act.put, List.getElem_toArray, List.getElem_cons_succ, List.getElem_cons_zero, List.setIfInBounds_toArray, List.set_cons_succ, List.set_cons_zero])
                  refine HeadAt.take (i := 7) undef rfl (by kernel_rfl) (.inr ⟨by kernel_rfl, rfl⟩) S0 ?_
                  (try simp only [Act.put, List.getElem_toArray, List.getElem_cons_succ, List.getElem_cons_zero, List.setIfInBounds_toArray, List.set_cons_succ, List.set_cons_zero])
                  refine HeadAt.take (i := 8) undef rfl (by kernel_rfl) (.inr ⟨by kernel_rfl, rfl⟩) S0 ?_
                  (try simp only [Act.put, List.getElem_toArray, List.getElem_cons_succ, List.getElem_cons_zero, List.setIfInBounds_toArray, List.set_cons_succ, List.set_cons_zero])
                  refine HeadAt.take (i := 9) undef rfl (by kernel_rfl) (.inr ⟨by kernel_rfl, rfl⟩) S0 ?_
                  (try simp only [Act.put, List.getElem_toArray, List.getElem_cons_succ, List.getElem_cons_zero, List.setIfInBounds_toArray, List.set_cons_succ, List.set_cons_zero])
                  refine HeadAt.take (i := 10) undef rfl (by kernel_rfl) (.inr ⟨by kernel_rfl, rfl⟩) S0 ?_
                  (try simp only [Act.put, List.getElem_toArray, List.getElem_cons_succ, List.getElem_cons_zero, List.setIfInBounds_toArray, List.set_cons_succ, List.set_cons_zero])
                  refine HeadAt.take (i := 11) undef rfl (by kernel_rfl) (.inr ⟨by kernel_rfl, rfl⟩) S0 ?_
                  (try simp only [Act.put, List.getElem_toArray, List.getElem_cons_succ, List.getElem_cons_zero, List.setIfInBounds_toArray, List.set_cons_succ, List.set_cons_zero])
                  refine HeadAt.take (i := 12) undef rfl (by kernel_rfl) (.inr ⟨by kernel_rfl, rfl⟩) S0 ?_
                  (try simp only [Act.put, List.getElem_toArray, List.getElem_cons_succ, List.getElem_cons_zero, List.setIfInBounds_toArray, List.set_cons_succ, List.set_cons_zero])
                  refine HeadAt.done (by kernel_rfl) ?_
                  (try simp only [Act.put, List.drop_succ_cons, List.drop_zero, List.getElem_toArray, List.getElem_cons_succ, List.getElem_cons_zero])
                  go_wp2_with fail
                  refine NoPanic.normal ?_
                  go_wp2
                  go_roundw
                  case rel => exact ⟨k + 1, by omega, by simp, hb2⟩
                  case measure => simp [intOf]; omega
              · have hkI : ¬ (k : Int) < n := by omega
                have HH := hid (And.intro hLk (And.intro hRk (And.intro x0k (hbc.trans (hb2.mono hbc.size)))))
                clear hLk hRk x0k hb2 hLc hRc x0c hbc
                go_wp2
                go_roundw
                case rel => exact ⟨i + 1, by omega, by simp, by rw [HSS.out], HH.out⟩
                case measure => simp [intOf]; omega
        · have hin : i = n := by omega
          have hiI : ¬ (i : Int) < n := by omega
          rw [hin, HF.out.sum]
          have hBp : (p == p) = true := by simp
          have c0 := x0i.cell 0 rfl; have c1 := x0i.cell 1 rfl; have c2 := x0i.cell 2 rfl
          go_wp2_with fail
          refine (hwk _).mono ?_
          rintro e Vw ⟨rfl, hbw9⟩
          replace hbi := hbi.trans (hbw9.mono hbi.size)
          go_wp2
          go_ret
          exact ⟨rfl, hbi⟩
    · have hBE : (askE p S O true != 0) = true := by simp [hE]
      rw [shR_bad hE] at h1
      simp only [List.length_nil] at h1
      obtain ⟨E, hE2⟩ : ∃ E, E = askE p S O true := ⟨_, rfl⟩
      rw [← hE2] at h1 h4 hBE
      clear hE hE2 hV hv
      have c0 := x0.cell 0 rfl; have c1 := x0.cell 1 rfl; have c2 := x0.cell 2 rfl
      go_enter Try.func3, Try.ntmps3
      go_wp2_with fail
      refine hrd.mono ?_
      rintro e W1 ⟨rfl, hb1⟩
      clear hrd hW hX
      clear c0 c1 c2
      replace x0 := x0.below hb1
      replace hR := hR.below hb1 (Nat.le_refl _)
      replace hb := hb.trans (hb1.mono hb.size)
      clear hb1
      have c0 := x0.cell 0 rfl; have c1 := x0.cell 1 rfl; have c2 := x0.cell 2 rfl
      go_wp2_with fail
      refine (h1 _ hR).mono ?_
      rintro e Vc5 ⟨aL, kL, rfl, hL, hb1⟩
      clear c0 c1 c2
      replace x0 := x0.below hb1
      replace hR := hR.below hb1 (Nat.le_refl _)
      replace hb := hb.trans (hb1.mono hb.size)
      clear hb1
      have c0 := x0.cell 0 rfl; have c1 := x0.cell 1 rfl; have c2 := x0.cell 2 rfl
      clear h1 hL
      go_wp2_with fail
      refine (h4 _ hR).mono ?_
      rintro e Vc6 ⟨rfl, hb1⟩
      clear c0 c1 c2
      replace x0 := x0.below hb1
      replace hR := hR.below hb1 (Nat.le_refl _)
      replace hb := hb.trans (hb1.mono hb.size)
      clear hb1
      have c0 := x0.cell 0 rfl; have c1 := x0.cell 1 rfl; have c2 := x0.cell 2 rfl
      clear h4
      go_wp2_with fail
      refine (hwk _).mono ?_
      rintro e Vw ⟨rfl, hbw9⟩
      clear c0 c1 c2
      replace hb := hb.trans (hbw9.mono hb.size)
      go_wp2
      go_ret
      exact ⟨rfl, hb⟩
end Go.Proofs.Ytakodllejndfeaa
