import Derived.Test.YtmpihcencnkpbaaU7
import Derived.Test.YtmpihcencnkpbaaTC
/-! The reference's Sure, Maybe. -/
namespace Go.Proofs.Ytmpihcencnkpbaa
set_option linter.unusedSimpArgs false
set_option linter.unusedVariables false
open Go Go.RowKit

theorem ct_eq {L N F : Int} {P : List F3} {so : Nat → Nat → Bool} (h : akE L N P F true = 0) : ctR so L N P F = (allF L N).filter fun f => so (cntH f (xpR L N P F.toNat)) (xpR L N P F.toNat).length := by
  obtain ⟨hL, hN, _⟩ := vB_siz (akE_ok h).1
  unfold ctR
  rw [if_pos h, ctL_eq hL hN]
theorem ct_no {L N F : Int} {P : List F3} {so : Nat → Nat → Bool} (h : akE L N P F true ≠ 0) : ctR so L N P F = [] := by unfold ctR; rw [if_neg h]
theorem rk_eq {L N F : Int} {P : List F3} {o : Bool} (h : akE L N P F o = 0) : rkT L N P F o = xpR L N P F.toNat := by unfold rkT; rw [if_pos h]
theorem CtP.row {w w' : World} {R : List F3} {a : Option Addr} {q c : Nat} (hb : Below w.heap.size w w') {base : Nat} (h : w'.ownsRow base 63 3 (.slice a q c) q (fcells R)) (hq : q = R.length) (h1 : R.length ≤ 1000) (h2 : ∀ x ∈ R, x.i64) : CtP R 0 w (.returned (.tuple #[.slice a q c, .int .i64 0])) w' := by
  subst hq
  obtain ⟨a', c', e, hf, _⟩ := Fz.of_own h h1 h2
  simp only [Value.slice.injEq, true_and] at e
  obtain ⟨rfl, rfl⟩ := e
  exact ⟨hb, a, c, rfl, hf⟩

set_option maxRecDepth 100000 in
set_option maxHeartbeats 6000000 in
theorem rSure_any (L N : Int) (aP : Option Addr) (cP : Nat) (P : List F3) (F : Int) (w : World) (hP : Pz w aP P) : Calls Try.prog 32 #[.agg #[.int .i64 L, .int .i64 N, .slice aP P.length cP, .int .i64 F]] w (CtP (ctR sureS L N P F) (akE L N P F true) w) := by
  obtain ⟨W, hW, hb, _, x0⟩ := boxes1 w #[.int .i64 L, .int .i64 N, .slice aP P.length cP, .int .i64 F] 24
  replace hP := hP.below hb (Nat.le_refl _)
  have hak := fun v (hv : Pz v aP P) => rtruths_any L N aP cP P F true v hv
  have heq := fun h => ct_eq (L := L) (N := N) (F := F) (P := P) (so := sureS) h
  have hno := fun h => ct_no (L := L) (N := N) (F := F) (P := P) (so := sureS) h
  have hrk := fun h => rk_eq (L := L) (N := N) (F := F) (P := P) (o := true) h
  have hsz := fun (h : akE L N P F true = 0) => vB_siz (akE_ok h).1
  unfold RkP at hak
  obtain ⟨E, hE0⟩ : ∃ E, E = akE L N P F true := ⟨_, rfl⟩
  rw [← hE0] at hak heq hno hrk hsz ⊢
  clear hE0
  by_cases hE : E = 0
  · obtain ⟨hL, hN, _, hF, _⟩ := hsz hE
    have haf := fun V => AllFaults_any L N aP cP P F V hL hN
    unfold LFP at haf
    have hln := xp_len hL hN P (m := F.toNat) (by omega)
    have hal := allF_len hL hN
    have hai : ∀ f ∈ allF L N, f.i64 := fun f hf => (Okf.of hL hN hf).i64
    rw [hrk hE] at hak
    rw [heq hE]
    subst hE
    clear heq hno hrk hsz hF hL hN
    generalize xpR L N P F.toNat = X at *
    generalize allF L N = AF at *
    have hct := fun f a c v (h : Rat v a X) => count_any a c X f v h hln
    have hcl := fun f => cntH_le f X
    obtain ⟨m, hm⟩ : ∃ m, m = X.length := ⟨_, rfl⟩
    rw [← hm] at hak hln hct hcl ⊢
    obtain ⟨n, hn⟩ : ∃ n, n = AF.length := ⟨_, rfl⟩
    rw [← hn] at haf hal
    have HN := hid hn
    have HAI := hid hai
    have HCL := hid hcl
    obtain ⟨p, hp⟩ : ∃ p : F3 → Bool, p = fun f => sureS (cntH f X) m := ⟨_, rfl⟩
    rw [← hp]
    have HP := hid (fun f => show p f = sureS (cntH f X) m by rw [hp])
    have hfl : ∀ j, ((AF.take j).filter p).length ≤ j := fun j => by
      have h1 := List.length_filter_le p (AF.take j)
      rw [List.length_take] at h1
      omega
    have HFL := hid hfl
    clear hm hn hai hcl hp hfl
    obtain ⟨i0, hi0, iz0, iz1, iz2⟩ := info_parts info63
    have c0 := x0.cell 0 rfl; have c1 := x0.cell 1 rfl; have c2 := x0.cell 2 rfl; have c3 := x0.cell 3 rfl
    go_enter Try.func32, Try.ntmps32
    go_wp2_with fail
    refine (hak _ hP).mono ?_
    rintro e W1 ⟨hb1, aT, cT, rfl, hrat⟩
    replace hb := hb.trans (hb1.mono hb.size)
    replace x0 := x0.below hb1
    clear hW hb1 c0 c1 c2 c3 hak hP
    have c0 := x0.cell 0 rfl; have c1 := x0.cell 1 rfl; have c2 := x0.cell 2 rfl; have c3 := x0.cell 3 rfl
    go_wp2_with fail
    refine (haf _).mono ?_
    rintro e W2 ⟨hb1, aA, cA, rfl, _, hfy⟩
    replace hb := hb.trans (hb1.mono hb.size)
    have hrt := hrat.below hb1 (Nat.le_refl _)
    have hfz := hfy.1
    clear hb1 c0 c1 c2 c3 x0 haf hrat hfy
    go_wp2
    go_loopw [6, 8] (fun v6 v8 wr => ∃ (j q : Nat) (a : Option Addr) (c : Nat), j ≤ n ∧ Hid (q = ((AF.take j).filter p).length) ∧ v8 = .int .i64 (j : Int) ∧ v6 = .slice a q c ∧ wr.ownsRow W2.heap.size 63 3 (.slice a q c) q (fcells ((AF.take j).filter p)) ∧ Below W2.heap.size W2 wr) (fun _ v8 _ => n - (intOf v8).toNat)
    case atStart => exact ⟨0, 0, none, 0, Nat.zero_le _, hid rfl, rfl, rfl, World.ownsRow_nil _ _ _ _, Below.refl _ _⟩
    case round =>
      obtain ⟨j, q, a, c, hj, HQ, rfl, rfl, hown, hbr⟩ := hrel
      by_cases hlt : j < n
      · obtain ⟨bF, oF, f, rfl, hbl, ⟨q0, q1, q2⟩, hfi, _, _, _, htk⟩ := (hfz.below hbr (Nat.le_refl _)).at (k := j) (by rw [← HN.out]; exact hlt)
        have hjI : (j : Int) < n := by omega
        have hz0 : (0 : Int) ≤ (j : Int) := by omega
        have hql := HFL.out j
        rw [← HQ.out] at hql
        have hct := hct f aT cT wr (hrt.below hbr (Nat.le_refl _))
        have hcl := HCL.out f
        have hpf := HP.out f
        obtain ⟨k, hk⟩ : ∃ k, k = cntH f X := ⟨_, rfl⟩
        rw [← hk] at hct hcl hpf
        have hat0 : At3 wr bF (oF + j * 3) f := ⟨q0, q1, q2⟩
        clear hk
        by_cases hc : k = m
        · have hp1 : p f = true := by rw [hpf]; unfold sureS; simp [hc]
          have hgn : (AF.take (j + 1)).filter p = (AF.take j).filter p ++ [f] := by rw [htk.out, filt_yes hp1]
          have HG := hid hgn
          have hcI : ((k : Int) == (m : Int)) = true := by simp [hc]
          clear hgn htk hp1 hpf hc
          go_wp2_with fail
          refine hct.mono ?_
          rintro e V1 ⟨rfl, hb3⟩
          clear q0 q1 q2 hct
          have hat1 : At3 V1 bF (oF + j * 3) f := hat0.eq (hb3.block bF hbl)
          obtain ⟨q0, q1, q2⟩ := hat1
          have hba := below_one (w := V1) (.cells #[.int .i64 f.k, .int .i64 f.a, .int .i64 f.b] 63)
          have hcls := Cls.of_bx (Bx.new V1 #[.int .i64 f.k, .int .i64 f.a, .int .i64 f.b] 63)
          have hown1 := own_below2 (own_below2 hown hb3) hba
          have hge := own_ge2 hown1
          have hbV := hbr.trans (hb3.mono hbr.size)
          have hsz := hbV.size
          clear hb3 hbr hown hat0
          go_wp2_with (at_builtin; refine wpList_appAt rfl (.tmp 34) (.tmp 39) 25 rfl W2.heap.size 63 i0 (.agg #[.int .i64 0, .int .i64 0, .int .i64 0]) 3 24 under25 hi0 iz0 iz1 iz2 rfl (by decide) (.slice a q c) q _ rfl hown1 (some ⟨V1.heap.size, 0, none⟩) 1 1 [.int .i64 f.k, .int .i64 f.a, .int .i64 f.b] rfl rfl hcls (fcells_one [f]) (by unfold maxLen; omega) (by omega) (by simp; omega) ?_; intro v3 W3 hown3 hg3 hat)
          obtain ⟨a3, c3, rfl⟩ := own_slice2 hown3
          have hb3 : Below W2.heap.size W2 W3 := (hbV.trans (hba.mono hsz)).grown hg3 (by simp; omega) hge
          have hown4 : W3.ownsRow W2.heap.size 63 3 (.slice a3 (q + 1) c3) (q + 1) (fcells ((AF.take (j + 1)).filter p)) := by
            rw [HG.out, fcells_app]; exact hown3
          have HQ2 := hid (show q + 1 = ((AF.take (j + 1)).filter p).length by rw [HG.out, List.length_append, ← HQ.out]; rfl)
          have HX := hid (And.intro hown4 hb3)
          clear hown3 hown4 hb3 hown1 hge hcls hba hg3 hat hbV q0 q1 q2 hbl
          go_wp2
          go_roundw
          case rel => exact ⟨j + 1, q + 1, a3, c3, by omega, HQ2, by go_num, rfl, HX.out.1, HX.out.2⟩
          case measure => simp [intOf]; omega
        · have hp1 : p f = false := by rw [hpf]; unfold sureS; simp [hc]
          have hgn : (AF.take (j + 1)).filter p = (AF.take j).filter p := by rw [htk.out, filt_no hp1]
          have HG := hid hgn
          have hcI : ((k : Int) == (m : Int)) = false := by rw [beq_eq_false_iff_ne]; omega
          clear hgn htk hp1 hpf hc hat0
          go_wp2_with fail
          refine hct.mono ?_
          rintro e V1 ⟨rfl, hb3⟩
          have HX := hid (And.intro (own_below2 hown hb3) (hbr.trans (hb3.mono hbr.size)))
          clear q0 q1 q2 hct hb3 hbr hown hbl
          go_wp2
          go_roundw
          case rel => exact ⟨j + 1, q, a, c, by omega, hid (by rw [HG.out]; exact HQ.out), by go_num, rfl, by rw [HG.out]; exact HX.out.1, HX.out.2⟩
          case measure => simp [intOf]; omega
      · obtain rfl : j = n := by omega
        have hjI : ¬ (j : Int) < (j : Int) := by omega
        have hres : CtP (AF.filter p) 0 w (.returned (.tuple #[.slice a q c, .int .i64 0])) wr := by
          have hq := HQ.out
          have e : AF.take j = AF := by rw [HN.out, List.take_length]
          rw [e] at hq hown
          have hl := HFL.out j
          rw [e] at hl
          exact CtP.row (hb.trans (hbr.mono hb.size)) hown hq (by omega) (fun x hx => HAI.out x (List.mem_filter.1 hx).1)
        have HR := hid hres
        clear hres hown
        go_wp2
        go_ret2
        exact HR.out
  · have hB : (E != 0) = true := by simpa using hE
    rw [hno hE]
    clear heq hno hrk hsz hE
    generalize rkT L N P F true = T at *
    have c0 := x0.cell 0 rfl; have c1 := x0.cell 1 rfl; have c2 := x0.cell 2 rfl; have c3 := x0.cell 3 rfl
    go_enter Try.func32, Try.ntmps32
    go_wp2_with fail
    refine (hak _ hP).mono ?_
    rintro e W1 ⟨hb1, aT, cT, rfl, hrat⟩
    replace hb := hb.trans (hb1.mono hb.size)
    clear hW hb1 c0 c1 c2 c3 hak hP x0 hrat
    have HR := hid (show CtP [] E w (.returned (.tuple #[.slice none 0 0, .int .i64 E])) W1 from ⟨hb, none, 0, rfl, Fz.nil _ _⟩)
    go_wp2
    go_ret2
    exact HR.out

set_option maxRecDepth 100000 in
set_option maxHeartbeats 6000000 in
theorem rMaybe_any (L N : Int) (aP : Option Addr) (cP : Nat) (P : List F3) (F : Int) (w : World) (hP : Pz w aP P) : Calls Try.prog 34 #[.agg #[.int .i64 L, .int .i64 N, .slice aP P.length cP, .int .i64 F]] w (CtP (ctR maybeS L N P F) (akE L N P F true) w) := by
  obtain ⟨W, hW, hb, _, x0⟩ := boxes1 w #[.int .i64 L, .int .i64 N, .slice aP P.length cP, .int .i64 F] 24
  replace hP := hP.below hb (Nat.le_refl _)
  have hak := fun v (hv : Pz v aP P) => rtruths_any L N aP cP P F true v hv
  have heq := fun h => ct_eq (L := L) (N := N) (F := F) (P := P) (so := maybeS) h
  have hno := fun h => ct_no (L := L) (N := N) (F := F) (P := P) (so := maybeS) h
  have hrk := fun h => rk_eq (L := L) (N := N) (F := F) (P := P) (o := true) h
  have hsz := fun (h : akE L N P F true = 0) => vB_siz (akE_ok h).1
  unfold RkP at hak
  obtain ⟨E, hE0⟩ : ∃ E, E = akE L N P F true := ⟨_, rfl⟩
  rw [← hE0] at hak heq hno hrk hsz ⊢
  clear hE0
  by_cases hE : E = 0
  · obtain ⟨hL, hN, _, hF, _⟩ := hsz hE
    have haf := fun V => AllFaults_any L N aP cP P F V hL hN
    unfold LFP at haf
    have hln := xp_len hL hN P (m := F.toNat) (by omega)
    have hal := allF_len hL hN
    have hai : ∀ f ∈ allF L N, f.i64 := fun f hf => (Okf.of hL hN hf).i64
    rw [hrk hE] at hak
    rw [heq hE]
    subst hE
    clear heq hno hrk hsz hF hL hN
    generalize xpR L N P F.toNat = X at *
    generalize allF L N = AF at *
    have hct := fun f a c v (h : Rat v a X) => count_any a c X f v h hln
    have hcl := fun f => cntH_le f X
    obtain ⟨m, hm⟩ : ∃ m, m = X.length := ⟨_, rfl⟩
    rw [← hm] at hak hln hct hcl ⊢
    obtain ⟨n, hn⟩ : ∃ n, n = AF.length := ⟨_, rfl⟩
    rw [← hn] at haf hal
    have HN := hid hn
    have HAI := hid hai
    have HCL := hid hcl
    obtain ⟨p, hp⟩ : ∃ p : F3 → Bool, p = fun f => maybeS (cntH f X) m := ⟨_, rfl⟩
    rw [← hp]
    have HP := hid (fun f => show p f = maybeS (cntH f X) m by rw [hp])
    have hfl : ∀ j, ((AF.take j).filter p).length ≤ j := fun j => by
      have h1 := List.length_filter_le p (AF.take j)
      rw [List.length_take] at h1
      omega
    have HFL := hid hfl
    clear hm hn hai hcl hp hfl
    obtain ⟨i0, hi0, iz0, iz1, iz2⟩ := info_parts info63
    have c0 := x0.cell 0 rfl; have c1 := x0.cell 1 rfl; have c2 := x0.cell 2 rfl; have c3 := x0.cell 3 rfl
    go_enter Try.func34, Try.ntmps34
    go_wp2_with fail
    refine (hak _ hP).mono ?_
    rintro e W1 ⟨hb1, aT, cT, rfl, hrat⟩
    replace hb := hb.trans (hb1.mono hb.size)
    replace x0 := x0.below hb1
    clear hW hb1 c0 c1 c2 c3 hak hP
    have c0 := x0.cell 0 rfl; have c1 := x0.cell 1 rfl; have c2 := x0.cell 2 rfl; have c3 := x0.cell 3 rfl
    go_wp2_with fail
    refine (haf _).mono ?_
    rintro e W2 ⟨hb1, aA, cA, rfl, _, hfy⟩
    replace hb := hb.trans (hb1.mono hb.size)
    have hrt := hrat.below hb1 (Nat.le_refl _)
    have hfz := hfy.1
    clear hb1 c0 c1 c2 c3 x0 haf hrat hfy
    go_wp2
    go_loopw [6, 8] (fun v6 v8 wr => ∃ (j q : Nat) (a : Option Addr) (c : Nat), j ≤ n ∧ Hid (q = ((AF.take j).filter p).length) ∧ v8 = .int .i64 (j : Int) ∧ v6 = .slice a q c ∧ wr.ownsRow W2.heap.size 63 3 (.slice a q c) q (fcells ((AF.take j).filter p)) ∧ Below W2.heap.size W2 wr) (fun _ v8 _ => n - (intOf v8).toNat)
    case atStart => exact ⟨0, 0, none, 0, Nat.zero_le _, hid rfl, rfl, rfl, World.ownsRow_nil _ _ _ _, Below.refl _ _⟩
    case round =>
      obtain ⟨j, q, a, c, hj, HQ, rfl, rfl, hown, hbr⟩ := hrel
      by_cases hlt : j < n
      · obtain ⟨bF, oF, f, rfl, hbl, ⟨q0, q1, q2⟩, hfi, _, _, _, htk⟩ := (hfz.below hbr (Nat.le_refl _)).at (k := j) (by rw [← HN.out]; exact hlt)
        have hjI : (j : Int) < n := by omega
        have hz0 : (0 : Int) ≤ (j : Int) := by omega
        have hql := HFL.out j
        rw [← HQ.out] at hql
        have hct := hct f aT cT wr (hrt.below hbr (Nat.le_refl _))
        have hcl := HCL.out f
        have hpf := HP.out f
        obtain ⟨k, hk⟩ : ∃ k, k = cntH f X := ⟨_, rfl⟩
        rw [← hk] at hct hcl hpf
        have hat0 : At3 wr bF (oF + j * 3) f := ⟨q0, q1, q2⟩
        clear hk
        by_cases hc : 0 < k
        · have hp1 : p f = true := by rw [hpf]; unfold maybeS; simp [hc]
          have hgn : (AF.take (j + 1)).filter p = (AF.take j).filter p ++ [f] := by rw [htk.out, filt_yes hp1]
          have HG := hid hgn
          have hcI : (0 : Int) < (k : Int) := by omega
          clear hgn htk hp1 hpf hc
          go_wp2_with fail
          refine hct.mono ?_
          rintro e V1 ⟨rfl, hb3⟩
          clear q0 q1 q2 hct
          have hat1 : At3 V1 bF (oF + j * 3) f := hat0.eq (hb3.block bF hbl)
          obtain ⟨q0, q1, q2⟩ := hat1
          have hba := below_one (w := V1) (.cells #[.int .i64 f.k, .int .i64 f.a, .int .i64 f.b] 63)
          have hcls := Cls.of_bx (Bx.new V1 #[.int .i64 f.k, .int .i64 f.a, .int .i64 f.b] 63)
          have hown1 := own_below2 (own_below2 hown hb3) hba
          have hge := own_ge2 hown1
          have hbV := hbr.trans (hb3.mono hbr.size)
          have hsz := hbV.size
          clear hb3 hbr hown hat0
          go_wp2_with (at_builtin; refine wpList_appAt rfl (.tmp 32) (.tmp 37) 25 rfl W2.heap.size 63 i0 (.agg #[.int .i64 0, .int .i64 0, .int .i64 0]) 3 24 under25 hi0 iz0 iz1 iz2 rfl (by decide) (.slice a q c) q _ rfl hown1 (some ⟨V1.heap.size, 0, none⟩) 1 1 [.int .i64 f.k, .int .i64 f.a, .int .i64 f.b] rfl rfl hcls (fcells_one [f]) (by unfold maxLen; omega) (by omega) (by simp; omega) ?_; intro v3 W3 hown3 hg3 hat)
          obtain ⟨a3, c3, rfl⟩ := own_slice2 hown3
          have hb3 : Below W2.heap.size W2 W3 := (hbV.trans (hba.mono hsz)).grown hg3 (by simp; omega) hge
          have hown4 : W3.ownsRow W2.heap.size 63 3 (.slice a3 (q + 1) c3) (q + 1) (fcells ((AF.take (j + 1)).filter p)) := by
            rw [HG.out, fcells_app]; exact hown3
          have HQ2 := hid (show q + 1 = ((AF.take (j + 1)).filter p).length by rw [HG.out, List.length_append, ← HQ.out]; rfl)
          have HX := hid (And.intro hown4 hb3)
          clear hown3 hown4 hb3 hown1 hge hcls hba hg3 hat hbV q0 q1 q2 hbl
          go_wp2
          go_roundw
          case rel => exact ⟨j + 1, q + 1, a3, c3, by omega, HQ2, by go_num, rfl, HX.out.1, HX.out.2⟩
          case measure => simp [intOf]; omega
        · have hp1 : p f = false := by rw [hpf]; unfold maybeS; simp [hc]
          have hgn : (AF.take (j + 1)).filter p = (AF.take j).filter p := by rw [htk.out, filt_no hp1]
          have HG := hid hgn
          have hcI : ¬ (0 : Int) < (k : Int) := by omega
          clear hgn htk hp1 hpf hc hat0
          go_wp2_with fail
          refine hct.mono ?_
          rintro e V1 ⟨rfl, hb3⟩
          have HX := hid (And.intro (own_below2 hown hb3) (hbr.trans (hb3.mono hbr.size)))
          clear q0 q1 q2 hct hb3 hbr hown hbl
          go_wp2
          go_roundw
          case rel => exact ⟨j + 1, q, a, c, by omega, hid (by rw [HG.out]; exact HQ.out), by go_num, rfl, by rw [HG.out]; exact HX.out.1, HX.out.2⟩
          case measure => simp [intOf]; omega
      · obtain rfl : j = n := by omega
        have hjI : ¬ (j : Int) < (j : Int) := by omega
        have hres : CtP (AF.filter p) 0 w (.returned (.tuple #[.slice a q c, .int .i64 0])) wr := by
          have hq := HQ.out
          have e : AF.take j = AF := by rw [HN.out, List.take_length]
          rw [e] at hq hown
          have hl := HFL.out j
          rw [e] at hl
          exact CtP.row (hb.trans (hbr.mono hb.size)) hown hq (by omega) (fun x hx => HAI.out x (List.mem_filter.1 hx).1)
        have HR := hid hres
        clear hres hown
        go_wp2
        go_ret2
        exact HR.out
  · have hB : (E != 0) = true := by simpa using hE
    rw [hno hE]
    clear heq hno hrk hsz hE
    generalize rkT L N P F true = T at *
    have c0 := x0.cell 0 rfl; have c1 := x0.cell 1 rfl; have c2 := x0.cell 2 rfl; have c3 := x0.cell 3 rfl
    go_enter Try.func34, Try.ntmps34
    go_wp2_with fail
    refine (hak _ hP).mono ?_
    rintro e W1 ⟨hb1, aT, cT, rfl, hrat⟩
    replace hb := hb.trans (hb1.mono hb.size)
    clear hW hb1 c0 c1 c2 c3 hak hP x0 hrat
    have HR := hid (show CtP [] E w (.returned (.tuple #[.slice none 0 0, .int .i64 E])) W1 from ⟨hb, none, 0, rfl, Fz.nil _ _⟩)
    go_wp2
    go_ret2
    exact HR.out
end Go.Proofs.Ytmpihcencnkpbaa
