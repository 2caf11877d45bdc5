import Derived.Test.YtmpihcencnkpbaaT2
/-! What a press plays, and whether a set explains presses. -/
namespace Go.Proofs.Ytmpihcencnkpbaa
set_option linter.unusedSimpArgs false
set_option linter.unusedVariables false
open Go Go.RowKit

theorem addr0 (a : Addr) : a.add 0 = a := by unfold Addr.add; split <;> simp_all
theorem sliced_h (a : Option Addr) (h c s : Nat) : sliced a 0 h c s = .slice a h c := by
  unfold sliced
  have e : ∀ ad : Addr, ad.add (0 * s) = ad := fun ad => by rw [Nat.zero_mul]; exact addr0 ad
  split
  · rfl
  · cases a with
    | none => rfl
    | some ad => simp [addr0]
theorem under25 : Try.prog.underlying 25 = some (.slice 63) := by kernel_rfl
theorem under22 : Try.prog.underlying 22 = some (.slice 58) := by kernel_rfl
theorem under67 : Try.prog.underlying 67 = some (.slice 25) := by kernel_rfl
theorem info63 : (Try.prog.info? 63).map (fun i => (i.zero, i.size, i.bytes)) = some (some (.agg #[.int .i64 0, .int .i64 0, .int .i64 0]), 3, 24) := by kernel_rfl
theorem info58 : (Try.prog.info? 58).map (fun i => (i.zero, i.size, i.bytes)) = some (some (.agg #[.int .i64 0, .int .i64 0, .int .i64 0]), 3, 24) := by kernel_rfl
theorem info25 : (Try.prog.info? 25).map (fun i => (i.zero, i.size, i.bytes)) = some (some (.slice none 0 0), 1, 24) := by kernel_rfl
theorem size63 (w : World) : (sizeOf 63).run Try.prog w = .ok 3 w := by kernel_rfl
theorem size58 (w : World) : (sizeOf 58).run Try.prog w = .ok 3 w := by kernel_rfl
theorem slice_h25 (a : Option Addr) (n c : Nat) (k : Nat) (hk : k ≤ c) (w : World) : (Instr.slice 25 (.slice a n c) none (some (.int .i64 (k : Int))) none).run Try.prog w = .ok (.slice a k c) w := by
  have ht : Try.prog.underlying 25 = some (.slice (Try.prog.elem 25)) := by kernel_rfl
  have he : Try.prog.elem 25 = 63 := by kernel_rfl
  rw [run_slice_h w 25 a n c ht .i64 (k : Int) (by omega) (by omega), he, size63]
  simp [Result.andThen, sliced_h]
theorem Fz.take {w : World} {a : Option Addr} {s : List F3} (h : Fz w a s) (k : Nat) : Fz w a (s.take k) := by
  obtain ⟨h1, h2, h3⟩ := h
  refine ⟨by rw [List.length_take]; omega, fun x hx => h2 x (List.mem_of_mem_take hx), fun i hi => ?_⟩
  rw [List.length_take] at hi
  obtain ⟨b, off, ha, hb, hc⟩ := h3 i (by omega)
  refine ⟨b, off, ha, hb, ?_⟩
  have e : (s.take k).getD i f30 = s.getD i f30 := by simp only [List.getD_eq_getElem?_getD, List.getElem?_take, if_pos (show i < k by omega)]
  rw [e]; exact hc
theorem crI_rng {f : F3} {x m : Int} (h : f.a < m ∧ f.b < m ∧ 0 ≤ f.a ∧ 0 ≤ f.b) (hx : 0 ≤ x ∧ x < m) : 0 ≤ crI f x ∧ crI f x < m := by
  unfold crI; split
  · omega
  · split <;> omega
theorem mul25 {x N : Int} (hx : 0 ≤ x ∧ x < 5) (hN : 1 ≤ N ∧ N ≤ 5) : 0 ≤ x * N ∧ x * N ≤ 20 := by
  have h1 : 0 ≤ x * N := Int.mul_nonneg hx.1 (by omega)
  have h2 : x * N ≤ 4 * 5 := Int.mul_le_mul (by omega) hN.2 (by omega) (by omega)
  omega

set_option maxRecDepth 100000 in
set_option maxHeartbeats 4000000 in
theorem plays_any (L N : Int) (aP : Option Addr) (cP : Nat) (P : List F3) (F : Int) (aS : Option Addr) (cS : Nat) (s : List F3) (l n : Int) (w : World) (hS : Fz w aS s) (hL : 1 ≤ L ∧ L ≤ 5) (hN : 1 ≤ N ∧ N ≤ 5) (hl : 0 ≤ l ∧ l < L) (hn : 0 ≤ n ∧ n < N) (hO : ∀ f ∈ s, Okf L N f) :
    Calls Try.prog 59 #[.agg #[.int .i64 L, .int .i64 N, .slice aP P.length cP, .int .i64 F], .slice aS s.length cS, .int .i64 l, .int .i64 n] w fun e w' => e = .returned (.int .i64 (plV N s l n)) ∧ Below w.heap.size w w' := by
  obtain ⟨W, hW, hb, _, x0⟩ := boxes1 w #[.int .i64 L, .int .i64 N, .slice aP P.length cP, .int .i64 F] 24
  have hlen := hS.len
  unfold plV
  obtain ⟨r, hr⟩ : ∃ r, r = plF N l n s l n := ⟨_, rfl⟩
  rw [← hr]
  have HRR : Hid (plF N l n (s.drop 0) l n = r) := hid (by rw [hr]; rfl)
  clear hr
  obtain ⟨m, hm⟩ : ∃ m, m = s.length := ⟨_, rfl⟩
  rw [← hm] at hlen
  rw [← hm]
  have HLN := hid hm
  clear hm
  have hS1 := hS.below hb (Nat.le_refl _)
  have HO := hid hO
  clear hS hO
  have c0 := x0.cell 0 rfl; have c1 := x0.cell 1 rfl; have c2 := x0.cell 2 rfl; have c3 := x0.cell 3 rfl
  go_enter Try.func59, Try.ntmps59
  go_wp2
  clear hW c0 c1 c2 c3
  go_loopw [9, 10, 12, 17] (fun v9 v10 v12 v17 wr => ∃ (k : Nat) (x y : Int), k ≤ m ∧ v17 = .int .i64 (k : Int) ∧ v9 = .int .i64 x ∧ v10 = .int .i64 y ∧ (0 ≤ x ∧ x < L) ∧ (0 ≤ y ∧ y < N) ∧ Hid (plF N l n (s.drop k) x y = r) ∧ Below W.heap.size W wr) (fun _ _ _ v17 _ => m - (intOf v17).toNat)
  case atStart => exact ⟨0, l, n, Nat.zero_le _, rfl, rfl, rfl, hl, hn, HRR, Below.refl _ _⟩
  case round =>
    obtain ⟨k, x, y, hk, rfl, rfl, rfl, hx, hy, HK, hb1⟩ := hrel
    clear HRR
    by_cases hlt : k < m
    · have hXr := hS1.below hb1 (Nat.le_refl _)
      obtain ⟨b, off, f, rfl, hbl, hat, _, hmem, _, hdr, _⟩ := hXr.at (k := k) (by rw [← HLN.out]; exact hlt)
      have hkI : (k : Int) < m := by omega
      have hk0 : (0 : Int) ≤ (k : Int) := by omega
      have hok := HO.out f hmem
      have HF := HK.out
      rw [hdr.out, plF] at HF
      have hcx := fun v => crossed_any f x v
      have hcy := fun v => crossed_any f y v
      have hrx := fun h => crI_rng (f := f) (x := x) (m := L) h hx
      have hry := fun h => crI_rng (f := f) (x := y) (m := N) h hy
      have hba := below_one (w := wr) (.cells #[.int .i64 f.k, .int .i64 f.a, .int .i64 f.b] 63)
      have hb2 := hb1.trans (hba.mono hb1.size)
      have x1 := Bx.new wr #[.int .i64 f.k, .int .i64 f.a, .int .i64 f.b] 63
      obtain ⟨q0, q1, q2⟩ := hat
      clear hmem hdr HK hXr
      obtain ⟨fk, fa, fb⟩ := f
      unfold Okf at hok
      simp only [deadP] at *
      have HXa := hid (And.intro hb2 (And.intro x1 HF))
      clear hb1 hba hb2 x1 HF
      go_upto_region 5 with fail
      obtain ⟨hb2, x1, HF⟩ := HXa.out
      clear HXa
      generalize wr.heap.size = sa at *
      generalize World.alloc _ _ = Va at *
      have d0 := x1.cell 0 rfl; have d1 := x1.cell 1 rfl; have d2 := x1.cell 2 rfl
      rcases (by omega : fk = 1 ∨ fk = 2 ∨ fk = 3 ∨ fk = 4) with rfl | rfl | rfl | rfl
      · simp at HF
        cases hB : (fa == l)
        · have hne : ¬ fa = l := by simpa using hB
          rw [if_neg hne] at HF
          have HR := hid HF
          clear HF hne hcx hcy hrx hry q0 q1 q2 hok
          go_wp2
          go_roundw
          case rel => exact ⟨k + 1, x, y, by omega, by simp, rfl, rfl, hx, hy, HR, hb2⟩
          case measure => simp [intOf]; omega
        · have hne : fa = l := by simpa using hB
          rw [if_pos hne] at HF
          have HR := hid HF
          replace hb := hb.trans (hb2.mono hb.size)
          clear HF hne hcx hcy hrx hry q0 q1 q2 hok
          go_wp2
          go_ret
          exact ⟨ret_int HR.out, hb⟩
      · simp at HF
        cases hB : (fa == n)
        · have hne : ¬ fa = n := by simpa using hB
          rw [if_neg hne] at HF
          have HR := hid HF
          clear HF hne hcx hcy hrx hry q0 q1 q2 hok
          go_wp2
          go_roundw
          case rel => exact ⟨k + 1, x, y, by omega, by simp, rfl, rfl, hx, hy, HR, hb2⟩
          case measure => simp [intOf]; omega
        · have hne : fa = n := by simpa using hB
          rw [if_pos hne] at HF
          have HR := hid HF
          replace hb := hb.trans (hb2.mono hb.size)
          clear HF hne hcx hcy hrx hry q0 q1 q2 hok
          go_wp2
          go_ret
          exact ⟨ret_int HR.out, hb⟩
      · simp at HF
        have hr2 := hrx (by omega)
        have HR := hid HF
        clear HF hcy hrx hry q0 q1 q2 hok
        go_wp2_with fail
        refine (hcx _).mono ?_
        rintro e V1 ⟨rfl, hb3⟩
        replace hb2 := hb2.trans (hb3.mono hb2.size)
        clear hcx d0 d1 d2 x1 hb3
        generalize crI _ x = x' at *
        go_wp2
        go_roundw
        case rel => exact ⟨k + 1, x', y, by omega, by simp, rfl, rfl, hr2, hy, HR, hb2⟩
        case measure => simp [intOf]; omega
      · simp at HF
        have hr2 := hry (by omega)
        have HR := hid HF
        clear HF hcx hrx hry q0 q1 q2 hok
        go_wp2_with fail
        refine (hcy _).mono ?_
        rintro e V1 ⟨rfl, hb3⟩
        replace hb2 := hb2.trans (hb3.mono hb2.size)
        clear hcy d0 d1 d2 x1 hb3
        generalize crI _ y = y' at *
        go_wp2
        go_roundw
        case rel => exact ⟨k + 1, x, y', by omega, by simp, rfl, rfl, hx, hr2, HR, hb2⟩
        case measure => simp [intOf]; omega
    · have hkn : k = m := by omega
      have HF := HK.out
      rw [hkn, HLN.out, List.drop_length, plF] at HF
      have hm1 := mul25 (x := x) (N := N) (by omega) hN
      have ew1 : IntKind.i64.wrap (x * N) = x * N := IntWalk.i64_in _ (by omega)
      have ew2 : IntKind.i64.wrap (x * N + y) = x * N + y := IntWalk.i64_in _ (by omega)
      have HR := hid HF
      have hkI : ¬ (k : Int) < m := by omega
      replace x0 := x0.below hb1
      replace hb := hb.trans (hb1.mono hb.size)
      have c0 := x0.cell 0 rfl; have c1 := x0.cell 1 rfl; have c2 := x0.cell 2 rfl; have c3 := x0.cell 3 rfl
      clear HF hkn HK hS1 x0 hb1
      go_wp2
      go_ret
      exact ⟨ret_int HR.out, hb⟩

theorem exB_no {N : Int} {s Q : List F3} {p : F3} (hp : p ∈ Q) (h : ¬ plV N s p.k p.a = p.b) : exB N s Q = false := by
  unfold exB
  rw [← Bool.not_eq_true, List.all_eq_true]
  intro hh
  have := hh p hp
  simp only [decide_eq_true_eq] at this
  exact h this

set_option maxRecDepth 100000 in
set_option maxHeartbeats 4000000 in
theorem explains_any (L N : Int) (aP : Option Addr) (cP : Nat) (P : List F3) (F : Int) (aS aQ : Option Addr) (cS cQ : Nat) (s Q : List F3) (w : World) (hS : Fz w aS s) (hQ : Fz w aQ Q) (hL : 1 ≤ L ∧ L ≤ 5) (hN : 1 ≤ N ∧ N ≤ 5) (hq : ∀ p ∈ Q, (0 ≤ p.k ∧ p.k < L) ∧ (0 ≤ p.a ∧ p.a < N)) (hO : ∀ f ∈ s, Okf L N f) :
    Calls Try.prog 61 #[.agg #[.int .i64 L, .int .i64 N, .slice aP P.length cP, .int .i64 F], .slice aS s.length cS, .slice aQ Q.length cQ] w fun e w' => e = .returned (.bool (exB N s Q)) ∧ Below w.heap.size w w' := by
  obtain ⟨W, hW, hb, _, x0⟩ := boxes1 w #[.int .i64 L, .int .i64 N, .slice aP P.length cP, .int .i64 F] 24
  have hlen := hQ.len
  have HN := fun p hp h => exB_no (N := N) (s := s) (Q := Q) (p := p) hp h
  have HA : Q.all (fun p => decide (plV N s p.k p.a = p.b)) = true → exB N s Q = true := fun h => h
  obtain ⟨r, hr⟩ : ∃ r, r = exB N s Q := ⟨_, rfl⟩
  rw [← hr] at HN HA ⊢
  clear hr
  obtain ⟨m, hm⟩ : ∃ m, m = Q.length := ⟨_, rfl⟩
  rw [← hm] at hlen
  rw [← hm]
  have HLN := hid hm
  have hS1 := hS.below hb (Nat.le_refl _)
  have hQ1 := hQ.below hb (Nat.le_refl _)
  have HO := hid hO
  have HQ := hid hq
  obtain ⟨ns, hns⟩ : ∃ ns, ns = s.length := ⟨_, rfl⟩
  rw [← hns]
  have HNS := hid hns
  clear hS hQ hO hq hm hns
  have c0 := x0.cell 0 rfl; have c1 := x0.cell 1 rfl; have c2 := x0.cell 2 rfl; have c3 := x0.cell 3 rfl
  go_enter Try.func61, Try.ntmps61
  go_wp2
  clear hW c0 c1 c2 c3
  go_loopw [8, 11] (fun v8 v11 wr => ∃ k : Nat, k ≤ m ∧ v11 = .int .i64 (k : Int) ∧ Hid ((Q.take k).all (fun p => decide (plV N s p.k p.a = p.b)) = true) ∧ Below W.heap.size W wr) (fun _ v11 _ => m - (intOf v11).toNat)
  case atStart => exact ⟨0, Nat.zero_le _, rfl, hid rfl, Below.refl _ _⟩
  case round =>
    obtain ⟨k, hk, rfl, HK, hb1⟩ := hrel
    by_cases hlt : k < m
    · have hQr := hQ1.below hb1 (Nat.le_refl _)
      have hSr := hS1.below hb1 (Nat.le_refl _)
      obtain ⟨b, off, p, rfl, hbl, ⟨q0, q1, q2⟩, _, hmem, _, _, htk⟩ := hQr.at (k := k) (by rw [← HLN.out]; exact hlt)
      have hkI : (k : Int) < m := by omega
      have hk0 : (0 : Int) ≤ (k : Int) := by omega
      have hno := HN p hmem
      have hp := HQ.out p hmem
      have hpl := fun v hv => plays_any L N aP cP P F aS cS s p.k p.a v hv hL hN hp.1 hp.2 HO.out
      rw [← HNS.out] at hpl
      have HG := hid (show (fun p : F3 => decide (plV N s p.k p.a = p.b)) p = decide (plV N s p.k p.a = p.b) from rfl)
      generalize plV N s p.k p.a = u at *
      have hba := below_one (w := wr) (.cells #[.int .i64 p.k, .int .i64 p.a, .int .i64 p.b] 58)
      have hb2 := hb1.trans (hba.mono hb1.size)
      have x1 := Bx.new wr #[.int .i64 p.k, .int .i64 p.a, .int .i64 p.b] 58
      have x0r := (x0.below hb1).below hba
      have hSa := hSr.below hba (Nat.le_refl _)
      have HXa := hid (And.intro hb2 (And.intro x1 (And.intro x0r hSa)))
      clear hb1 hba hb2 x1 x0r hmem HN hQr hSr hSa
      go_upto_region 4 with fail
      obtain ⟨hb2, x1, x0r, hSa⟩ := HXa.out
      clear HXa
      generalize wr.heap.size = sa at *
      generalize World.alloc _ _ = Va at *
      clear q0 q1 q2
      have hbd := (Below.refl Va.heap.size Va).drew
      have S0 := (And.intro (x1.below hbd) (And.intro (x0r.below hbd) (hSa.below hbd (Nat.le_refl _))))
      replace hb2 := hb2.trans (hbd.mono hb2.size)
      clear hbd x1 x0r hSa
      refine wp_region_head 9 (fun w' => (Bx w' sa #[.int .i64 p.k, .int .i64 p.a, .int .i64 p.b] 58) ∧ (Bx w' w.heap.size #[.int .i64 L, .int .i64 N, .slice aP P.length cP, .int .i64 F] 24) ∧ (Fz w' aS s)) (by kernel_rfl) rfl ?_
      generalize Va.drew = Y0 at *
      refine HeadAt.take (i := 0) (.agg #[.int .i64 L, .int .i64 N, .slice aP P.length cP, .int .i64 F]) rfl (by kernel_rfl) (.inl ⟨rfl, fun w' z => ?_⟩) S0 ?_
      · (have z0 := z.2.1.cell 0 rfl; have z1 := z.2.1.cell 1 rfl; have z2 := z.2.1.cell 2 rfl; have z3 := z.2.1.cell 3 rfl; simp [go_sem, z0, z1, z2, z3])
      (try simp only [Act.put, List.getElem_toArray, List.getElem_cons_succ, List.getElem_cons_zero, List.setIfInBounds_toArray, List.set_cons_succ, List.set_cons_zero])
      refine HeadAt.take (i := 1) (.slice aS ns cS) rfl (by kernel_rfl) (.inl ⟨rfl, fun _ _ => by simp [go_sem]⟩) S0 ?_
      (try simp only [Act.put, List.getElem_toArray, List.getElem_cons_succ, List.getElem_cons_zero, List.setIfInBounds_toArray, List.set_cons_succ, List.set_cons_zero])
      refine HeadAt.take (i := 2) (.pointer (some ⟨sa, 0, none⟩)) rfl (by kernel_rfl) (.inl ⟨rfl, fun _ _ => by simp [go_sem]⟩) S0 ?_
      (try simp only [Act.put, List.getElem_toArray, List.getElem_cons_succ, List.getElem_cons_zero, List.setIfInBounds_toArray, List.set_cons_succ, List.set_cons_zero])
      refine HeadAt.take (i := 3) (.int .i64 p.k) rfl (by kernel_rfl) (.inl ⟨rfl, fun w' z => ?_⟩) S0 ?_
      · (have z0 := z.1.cell 0 rfl; simp [go_sem, z0])
      (try simp only [Act.put, List.getElem_toArray, List.getElem_cons_succ, List.getElem_cons_zero, List.setIfInBounds_toArray, List.set_cons_succ, List.set_cons_zero])
      refine HeadAt.take (i := 4) (.pointer (some ⟨sa, 1, none⟩)) rfl (by kernel_rfl) (.inl ⟨rfl, fun _ _ => by simp [go_sem]⟩) S0 ?_
      (try simp only [Act.put, List.getElem_toArray, List.getElem_cons_succ, List.getElem_cons_zero, List.setIfInBounds_toArray, List.set_cons_succ, List.set_cons_zero])
      refine HeadAt.take (i := 5) (.int .i64 p.a) rfl (by kernel_rfl) (.inl ⟨rfl, fun w' z => ?_⟩) S0 ?_
      · (have z0 := z.1.cell 1 rfl; simp [go_sem, z0])
      (try simp only [Act.put, List.getElem_toArray, List.getElem_cons_succ, List.getElem_cons_zero, List.setIfInBounds_toArray, List.set_cons_succ, List.set_cons_zero])
      refine HeadAt.take (i := 7) (.pointer (some ⟨sa, 2, none⟩)) rfl (by kernel_rfl) (.inl ⟨rfl, fun _ _ => by simp [go_sem]⟩) S0 ?_
      (try simp only [Act.put, List.getElem_toArray, List.getElem_cons_succ, List.getElem_cons_zero, List.setIfInBounds_toArray, List.set_cons_succ, List.set_cons_zero])
      refine HeadAt.take (i := 8) (.int .i64 p.b) rfl (by kernel_rfl) (.inl ⟨rfl, fun w' z => ?_⟩) S0 ?_
      · (have z0 := z.1.cell 2 rfl; simp [go_sem, z0])
      (try simp only [Act.put, List.getElem_toArray, List.getElem_cons_succ, List.getElem_cons_zero, List.setIfInBounds_toArray, List.set_cons_succ, List.set_cons_zero])
      refine HeadAt.one (i := 6) rfl (by kernel_rfl) ?_
      generalize hK : Upto _ _ = K0
      (try simp only [Act.put, List.getElem_toArray, List.getElem_cons_succ, List.getElem_cons_zero, List.setIfInBounds_toArray, List.set_cons_succ, List.set_cons_zero])
      go_wp2_with fail
      refine (hpl _ S0.2.2).mono ?_
      rintro e V1 ⟨rfl, hb1⟩
      go_wp2_with fail
      replace S0 := (And.intro (S0.1.below hb1) (And.intro (S0.2.1.below hb1) (S0.2.2.below hb1 (Nat.le_refl _))))
      replace hb2 := hb2.trans (hb1.mono hb2.size)
      clear hb1
      subst hK
      refine ⟨S0, ?_⟩
      (try simp only [Act.put, List.getElem_toArray, List.getElem_cons_succ, List.getElem_cons_zero, List.setIfInBounds_toArray, List.set_cons_succ, List.set_cons_zero])
      refine HeadAt.done (by kernel_rfl) ?_
      (try simp only [Act.put, List.drop_succ_cons, List.drop_zero, List.getElem_toArray, List.getElem_cons_succ, List.getElem_cons_zero])
      clear S0 hpl
      cases hB : (u != p.b)
      all_goals
        go_wp2_with fail
        refine NoPanic.normal ?_
      · have he : u = p.b := by simpa using hB
        have HK2 := hid (show (Q.take (k + 1)).all (fun p => decide (plV N s p.k p.a = p.b)) = true by rw [htk.out]; exact all_snoc3 HK.out (by rw [HG.out]; exact decide_eq_true he))
        clear hno htk HK HA he
        go_wp2
        go_roundw
        case rel => exact ⟨k + 1, by omega, by simp, HK2, hb2⟩
        case measure => simp [intOf]; omega
      · have he : ¬ u = p.b := by simpa using hB
        have HR := hid (hno he)
        replace hb := hb.trans (hb2.mono hb.size)
        clear hno htk HK HA he
        go_wp2
        go_ret
        exact ⟨ret_bool (by rw [HR.out]), hb⟩
    · have hkn : k = m := by omega
      have hall : Q.all (fun p => decide (plV N s p.k p.a = p.b)) = true := by
        have := HK.out
        rwa [hkn, HLN.out, List.take_length] at this
      have HR := hid (HA hall)
      have hkI : ¬ (k : Int) < m := by omega
      replace hb := hb.trans (hb1.mono hb.size)
      clear hall hkn HA HN HK hQ1 hS1 x0 hb1
      go_wp2
      go_ret
      exact ⟨ret_bool (by rw [HR.out]), hb⟩
end Go.Proofs.Ytmpihcencnkpbaa
