import Derived.Test.YtmpihcencnkpbaaUC
/-! The reference's Turned. -/
namespace Go.Proofs.Ytmpihcencnkpbaa
set_option linter.unusedSimpArgs false
set_option linter.unusedVariables false
open Go Go.RowKit

set_option maxRecDepth 100000 in
set_option maxHeartbeats 6000000 in
theorem Turned_any (L N : Int) (aP : Option Addr) (cP : Nat) (P : List F3) (F : Int) (aS : Option Addr) (cS : Nat) (s : List F3) (w : World) (hP : Fz w aP P) (hS : Fz w aS s) (hL : 1 ≤ L ∧ L ≤ 5) (hN : 1 ≤ N ∧ N ≤ 5) (hq : ∀ p ∈ P, ((0 ≤ p.k ∧ p.k < L) ∧ (0 ≤ p.a ∧ p.a < N)) ∧ (-1 ≤ p.b ∧ p.b ≤ L * N - 1)) :
    Calls Try.prog 52 #[.agg #[.int .i64 L, .int .i64 N, .slice aP P.length cP, .int .i64 F], .slice aS s.length cS] w (LFP (tuS L N s) w) := by
  obtain ⟨i0, hi0, iz0, iz1, iz2⟩ := info_parts info63
  obtain ⟨W, hW, hb, _, x0⟩ := boxes1 w #[.int .i64 L, .int .i64 N, .slice aP P.length cP, .int .i64 F] 24
  replace hP := hP.below hb (Nat.le_refl _)
  replace hS := hS.below hb (Nat.le_refl _)
  have hex := fun V (h : Fz V aP P) => Exchanged_any L N aP cP P F V h hL hN hq
  have haf := fun a c (Q : List F3) V => AllFaults_any N L a c Q F V hN hL
  unfold ExcP at hex
  unfold LFP at haf
  have htu := fun (g : F3) (h : g ∈ allF N L) V => turned_any g (k14 hN hL h) V
  have hhs := fun f a c V (h : Fz V a s) => Has_any a c s f V h
  have hal := allF_len hN hL
  have hai : ∀ f ∈ allF N L, f.i64 := fun f hf => (Okf.of hN hL hf).i64
  obtain ⟨ls, hls⟩ : ∃ ls, ls = s.length := ⟨_, rfl⟩
  rw [← hls] at hhs ⊢
  obtain ⟨p, hp⟩ : ∃ p : F3 → Bool, p = fun g => hasF s (tuF g) := ⟨_, rfl⟩
  have hres0 : tuS L N s = (allF N L).filter p := by rw [hp]; rfl
  rw [hres0]
  have HPF := hid (fun g => show p g = hasF s (tuF g) by rw [hp])
  generalize allF N L = AF at *
  obtain ⟨n, hn⟩ : ∃ n, n = AF.length := ⟨_, rfl⟩
  rw [← hn] at haf hal
  have HN := hid hn
  have HAI := hid hai
  have HTU := hid htu
  have hfl : ∀ j, ((AF.take j).filter p).length ≤ j := fun j => by
    have h1 := List.length_filter_le p (AF.take j)
    rw [List.length_take] at h1
    omega
  have HFL := hid hfl
  clear hq hp hls hn hai htu hfl hres0 hL hN
  have c0 := x0.cell 0 rfl; have c1 := x0.cell 1 rfl; have c2 := x0.cell 2 rfl; have c3 := x0.cell 3 rfl
  go_enter Try.func52, Try.ntmps52
  go_wp2_with fail
  refine (hex _ hP).mono ?_
  rintro e W1 ⟨hb1, aQ, cQ, rfl, hfq, _⟩
  replace hb := hb.trans (hb1.mono hb.size)
  have hS1 := hS.below hb1 (Nat.le_refl _)
  clear hW hb1 c0 c1 c2 c3 x0 hex hP hS hfq
  go_wp2_with fail
  refine (haf _ _ _ _).mono ?_
  rintro e W2 ⟨hb1, aA, cA, rfl, _, hfy⟩
  replace hb := hb.trans (hb1.mono hb.size)
  have hS2 := hS1.below hb1 (Nat.le_refl _)
  have hfz := hfy.1
  clear hb1 haf hS1 hfy
  go_wp2
  go_loopw [5, 7] (fun v5 v7 wr => ∃ (j q : Nat) (a : Option Addr) (c : Nat), j ≤ n ∧ Hid (q = ((AF.take j).filter p).length) ∧ v7 = .int .i64 (j : Int) ∧ v5 = .slice a q c ∧ wr.ownsRow W2.heap.size 63 3 (.slice a q c) q (fcells ((AF.take j).filter p)) ∧ Below W2.heap.size W2 wr) (fun _ v7 _ => n - (intOf v7).toNat)
  case atStart => exact ⟨0, 0, none, 0, Nat.zero_le _, hid rfl, rfl, rfl, World.ownsRow_nil _ _ _ _, Below.refl _ _⟩
  case round =>
    obtain ⟨j, q, a, c, hj, HQ, rfl, rfl, hown, hbr⟩ := hrel
    by_cases hlt : j < n
    · obtain ⟨bF, oF, f, rfl, hbl, ⟨q0, q1, q2⟩, hfi, hmem, _, _, htk⟩ := (hfz.below hbr (Nat.le_refl _)).at (k := j) (by rw [← HN.out]; exact hlt)
      have hjI : (j : Int) < n := by omega
      have hz0 : (0 : Int) ≤ (j : Int) := by omega
      have hql := HFL.out j
      rw [← HQ.out] at hql
      have htu := HTU.out f hmem wr
      have hhs := hhs (tuF f)
      have hpf := HPF.out f
      obtain ⟨z, hz⟩ : ∃ z, z = hasF s (tuF f) := ⟨_, rfl⟩
      rw [← hz] at hhs hpf
      generalize tuF f = tf at *
      have hat0 : At3 wr bF (oF + j * 3) f := ⟨q0, q1, q2⟩
      have hSr := hS2.below hbr (Nat.le_refl _)
      clear hz hmem
      go_wp2_with fail
      refine htu.mono ?_
      rintro e V1 ⟨rfl, hb3⟩
      have hSv := hSr.below hb3 (Nat.le_refl _)
      have hat1 : At3 V1 bF (oF + j * 3) f := hat0.eq (hb3.block bF hbl)
      have hown1 := own_below2 hown hb3
      have hbV := hbr.trans (hb3.mono hbr.size)
      have hbl1 : bF < V1.heap.size := Nat.lt_of_lt_of_le hbl hb3.size
      clear htu hSr hb3 hbr hown hat0 q0 q1 q2 hbl
      go_wp2_with fail
      refine (hhs _ _ _ hSv).mono ?_
      rintro e V2 ⟨rfl, hb3⟩
      have hat2 : At3 V2 bF (oF + j * 3) f := hat1.eq (hb3.block bF hbl1)
      have hown2 := own_below2 hown1 hb3
      have hbW := hbV.trans (hb3.mono hbV.size)
      clear hhs hSv hb3 hown1 hat1 hbV hbl1
      cases z
      · have hgn : (AF.take (j + 1)).filter p = (AF.take j).filter p := by rw [htk.out, filt_no hpf]
        have HG := hid hgn
        have HX := hid (And.intro hown2 hbW)
        clear hgn htk hpf hat2 hown2 hbW
        go_wp2
        go_roundw
        case rel => exact ⟨j + 1, q, a, c, by omega, hid (by rw [HG.out]; exact HQ.out), by go_num, rfl, by rw [HG.out]; exact HX.out.1, HX.out.2⟩
        case measure => simp [intOf]; omega
      · have hgn : (AF.take (j + 1)).filter p = (AF.take j).filter p ++ [f] := by rw [htk.out, filt_yes hpf]
        have HG := hid hgn
        clear hgn htk hpf
        obtain ⟨q0, q1, q2⟩ := hat2
        have hba := below_one (w := V2) (.cells #[.int .i64 f.k, .int .i64 f.a, .int .i64 f.b] 63)
        have hcls := Cls.of_bx (Bx.new V2 #[.int .i64 f.k, .int .i64 f.a, .int .i64 f.b] 63)
        have hown3' := own_below2 hown2 hba
        have hge := own_ge2 hown3'
        have hsz := hbW.size
        clear hown2
        go_wp2_with (at_builtin; refine wpList_appAt rfl (.tmp 24) (.tmp 29) 25 rfl W2.heap.size 63 i0 (.agg #[.int .i64 0, .int .i64 0, .int .i64 0]) 3 24 under25 hi0 iz0 iz1 iz2 rfl (by decide) (.slice a q c) q _ rfl hown3' (some ⟨V2.heap.size, 0, none⟩) 1 1 [.int .i64 f.k, .int .i64 f.a, .int .i64 f.b] rfl rfl hcls (fcells_one [f]) (by unfold maxLen; omega) (by omega) (by simp; omega) ?_; intro v3 W3 hown3 hg3 hat)
        obtain ⟨a3, c3, rfl⟩ := own_slice2 hown3
        have hb3 : Below W2.heap.size W2 W3 := (hbW.trans (hba.mono hsz)).grown hg3 (by simp; omega) hge
        have hown4 : W3.ownsRow W2.heap.size 63 3 (.slice a3 (q + 1) c3) (q + 1) (fcells ((AF.take (j + 1)).filter p)) := by
          rw [HG.out, fcells_app]; exact hown3
        have HQ2 := hid (show q + 1 = ((AF.take (j + 1)).filter p).length by rw [HG.out, List.length_append, ← HQ.out]; rfl)
        have HX := hid (And.intro hown4 hb3)
        clear hown3 hown4 hb3 hown3' hge hcls hba hg3 hat hbW q0 q1 q2
        go_wp2
        go_roundw
        case rel => exact ⟨j + 1, q + 1, a3, c3, by omega, HQ2, by go_num, rfl, HX.out.1, HX.out.2⟩
        case measure => simp [intOf]; omega
    · obtain rfl : j = n := by omega
      have hjI : ¬ (j : Int) < (j : Int) := by omega
      have hres : LFP (AF.filter p) w (.returned (.slice a q c)) wr := by
        have hq := HQ.out
        have e : AF.take j = AF := by rw [HN.out, List.take_length]
        rw [e] at hq hown
        have hl := HFL.out j
        rw [e] at hl
        subst hq
        have hbb := hb.trans (hbr.mono hb.size)
        exact ⟨hbb, a, c, rfl, own_cap hown, Fy.of_own hown (by omega) (fun x hx => HAI.out x (List.mem_filter.1 hx).1)⟩
      have HR := hid hres
      clear hres hown
      go_wp2
      go_ret
      exact HR.out
end Go.Proofs.Ytmpihcencnkpbaa
