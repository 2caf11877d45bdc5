import Derived.Test.YteianfbdhakhpaaV6
/-! The specification's Lists, Read. -/
namespace Go.Proofs.Yteianfbdhakhpaa
set_option linter.unusedSimpArgs false
set_option linter.unusedVariables false
open Go Go.RowKit
theorem dN_snoc (l : List (List Int)) (x : List Int) : dN (l ++ [x]) = dN l + if x ∈ l then 0 else 1 := by
  rw [dN_perm (List.perm_append_singleton x l), dN_cons]
set_option maxRecDepth 100000 in
set_option maxHeartbeats 5000000 in
theorem rLists_any (aT : Option Addr) (cT : Nat) (X : Pu) (w : World) (hX : Ints w aT X.ts) : Calls Try.prog 27 #[.agg #[.int .i64 X.l, .int .i64 X.n, .int .i64 X.pi, .int .i64 X.sl, .int .i64 X.ga, .int .i64 X.pa, .int .i64 X.sp, .slice aT X.ts.length cT]] w fun e w' => e = .returned (.tuple #[.int .i64 (lsN X), .int .i64 (erX X true)]) ∧ Below w.heap.size w w' := by
  obtain ⟨W, hW, hb, _, x0⟩ := boxes1 w #[.int .i64 X.l, .int .i64 X.n, .int .i64 X.pi, .int .i64 X.sl, .int .i64 X.ga, .int .i64 X.pa, .int .i64 X.sp, .slice aT X.ts.length cT] 24
  replace hX := hX.below hb (Nat.le_refl _)
  have hkn := fun V h => known_any aT cT X true V h
  unfold KnP at hkn
  have HM := hid (show dN ((if erX X true = 0 then RS X else []).map (·.2)) = lsN X by unfold lsN; split <;> rfl)
  have HN15 := hid (show (if erX X true = 0 then RS X else []).length ≤ 15625 by
    split
    · rename_i h
      have hv : vB X = true := by
        cases hh : vB X with
        | true => rfl
        | false => unfold erX chkE erO at h; rw [hh] at h; simp at h
      exact rdL_len X _ (timesB_rng (vB_ok hv).2.2).1 (by have := (vB_ok hv).2.1; omega)
    · simp)
  have hsm := fun a b ca cb xs ys V h1 h2 => SameInts_any a b ca cb xs ys V h1 h2
  generalize (if erX X true = 0 then RS X else []) = rs at *
  generalize lsN X = M at *
  generalize erX X true = E at *
  generalize X.ts.length = n at *
  obtain ⟨N, hN⟩ : ∃ N, N = rs.length := ⟨_, rfl⟩
  have HN := hid hN
  have hn15 := HN15.out
  rw [← hN] at hkn hn15
  clear hN HN15
  have c0 := x0.cell 0 rfl; have c1 := x0.cell 1 rfl; have c2 := x0.cell 2 rfl; have c3 := x0.cell 3 rfl; have c4 := x0.cell 4 rfl; have c5 := x0.cell 5 rfl; have c6 := x0.cell 6 rfl; have c7 := x0.cell 7 rfl
  go_enter Try.func27, Try.ntmps27
  go_wp2_with fail
  refine (hkn _ hX).mono ?_
  rintro e V ⟨hb1, a, c, rfl, hr⟩
  have HR := hid hr
  have HB := hid (hb.trans (hb1.mono hb.size))
  clear hb1 hb x0 c0 c1 c2 c3 c4 c5 c6 c7 hkn hW hX hr
  go_wp2
  go_loopw [6, 7] (fun v6 v7 wr => ∃ i q : Nat, i ≤ N ∧ q ≤ i ∧ v7 = .int .i64 (i : Int) ∧ v6 = .int .i64 (q : Int) ∧ Hid (q = dN ((rs.take i).map (·.2))) ∧ Below V.heap.size V wr) (fun _ v7 _ => N - (intOf v7).toNat)
  case atStart => exact ⟨0, 0, Nat.zero_le _, Nat.le_refl _, rfl, rfl, hid rfl, Below.refl _ _⟩
  case round =>
    obtain ⟨i, q, hi, hqi, rfl, rfl, HQ, hb⟩ := hrel
    by_cases hlt : i < N
    · obtain ⟨ri, hri⟩ : ∃ r, rs[i]? = some r := ⟨_, List.getElem?_eq_getElem (by rw [← HN.out]; exact hlt)⟩
      obtain ⟨b, off, a1, c1, ai, ci, rfl, hbl, q1, q2, i1, i2⟩ := HR.out i ri hri
      have hiI : (i : Int) < N := by omega
      have hi0 : (0 : Int) ≤ (i : Int) := by omega
      have HCI := hid (show ClB V b (off + i * 2 + 1) (.slice ai ri.2.length ci) from ⟨q2, hbl⟩)
      have HII := hid i2.i
      have HST := hid (show dN ((rs.take (i + 1)).map (·.2)) = q + if ri.2 ∈ (rs.take i).map (·.2) then 0 else 1 by
        rw [List.take_add_one, hri, List.map_append]
        show dN (_ ++ [ri.2]) = _
        rw [dN_snoc, ← HQ.out])
      clear q1 q2 hbl i1 i2 hri
      generalize hrl : ri.2 = Li at *
      clear hrl
      obtain ⟨mi, hmi⟩ : ∃ mi, mi = Li.length := ⟨_, rfl⟩
      have HMI := hid hmi
      rw [← hmi] at HCI
      clear hmi
      go_wp2
      go_loopw [8, 9] (fun v8 v9 wi => ∃ (j : Nat) (f : Bool), j ≤ i ∧ v9 = .int .i64 (j : Int) ∧ v8 = .bool f ∧ Hid (f = !decide (Li ∈ (rs.take j).map (·.2))) ∧ Below V.heap.size V wi) (fun _ v9 _ => i - (intOf v9).toNat)
      case atStart => exact ⟨0, true, Nat.zero_le _, rfl, rfl, hid (by simp), hb⟩
      case round =>
        clear hb
        obtain ⟨j, f, hj, rfl, rfl, HF, hb⟩ := hrel
        by_cases hlj : j < i
        · obtain ⟨rj, hrj⟩ : ∃ r, rs[j]? = some r := ⟨_, List.getElem?_eq_getElem (by rw [← HN.out]; omega)⟩
          obtain ⟨b', off', a1', c1', aj, cj, eb, hbl, q1, q2, i1, i2⟩ := HR.out j rj hrj
          simp only [Option.some.injEq, Addr.mk.injEq, and_true] at eb
          obtain ⟨rfl, rfl⟩ := eb
          have hjI : (j : Int) < N := by omega
          have hcj := (show ClB V b (off + j * 2 + 1) (.slice aj rj.2.length cj) from ⟨q2, hbl⟩).below hb
          have hci := HCI.out.below hb
          have hsm1 := fun Vz (hz : BlS wr Vz) => hsm aj ai cj ci rj.2 Li Vz ((i2.i.below hb (Nat.le_refl _)).below hz (Nat.le_refl _)) ((HII.out.below hb (Nat.le_refl _)).below hz (Nat.le_refl _))
          have hst : decide (Li ∈ (rs.take (j + 1)).map (·.2)) = (decide (Li ∈ (rs.take j).map (·.2)) || decide (rj.2 = Li)) := by
            rw [List.take_add_one, hrj, List.map_append, ← Bool.decide_or]
            congr 1
            simp only [Option.toList_some, List.map_cons, List.map_nil, List.mem_append, List.mem_singleton]
            rw [eq_comm (a := Li)]
          have hf := HF.out
          obtain ⟨mj, hmj⟩ : ∃ mj, mj = rj.2.length := ⟨_, rfl⟩
          rw [← hmj, ← HMI.out] at hsm1
          rw [← hmj] at hcj
          clear q1 q2 hbl i1 i2 hrj hmj
          cases f with
          | true =>
            have hno : decide (Li ∈ (rs.take j).map (·.2)) = false := by cases hh : decide (Li ∈ (rs.take j).map (·.2)) with | false => rfl | true => rw [hh] at hf; cases hf
            rw [hno, Bool.false_or] at hst
            cases hsame : decide (rj.2 = Li) with
            | true =>
              rw [hsame] at hsm1 hst
              have HF2 := hid (show false = !decide (Li ∈ (rs.take (j + 1)).map (·.2)) by rw [hst]; rfl)
              clear hno hst hsame hf
              go_upto_region 10 with fail
              have S0 : BlS wr wr.drew := (Below.refl wr.heap.size wr).drew
              refine wp_region_headW 16 (fun w' => BlS wr w') (by kernel_rfl) (by kernel_rfl) ?_
              generalize wr.drew = Y0 at *
              refine HeadAt.takeW (i := 0) (.bool true) rfl (by kernel_rfl) (.inl ⟨rfl, fun _ _ => by simp [go_sem]⟩) S0 ?_
              (try simp only [Act.put, List.getElem_toArray, List.getElem_cons_succ, List.getElem_cons_zero, List.setIfInBounds_toArray, List.set_cons_succ, List.set_cons_zero])
              refine HeadAt.takeW (i := 1) (.bool true) rfl (by kernel_rfl) (.inl ⟨rfl, fun _ _ => by simp [go_sem]⟩) S0 ?_
              (try simp only [Act.put, List.getElem_toArray, List.getElem_cons_succ, List.getElem_cons_zero, List.setIfInBounds_toArray, List.set_cons_succ, List.set_cons_zero])
              refine HeadAt.takeW (i := 2) (.slice (some ⟨b, off, none⟩) N c) rfl (by kernel_rfl) (.inl ⟨rfl, fun _ _ => by simp [go_sem]⟩) S0 ?_
              (try simp only [Act.put, List.getElem_toArray, List.getElem_cons_succ, List.getElem_cons_zero, List.setIfInBounds_toArray, List.set_cons_succ, List.set_cons_zero])
              refine HeadAt.takeW (i := 3) (.int .i64 (j : Int)) rfl (by kernel_rfl) (.inl ⟨rfl, fun _ _ => by simp [go_sem]⟩) S0 ?_
              (try simp only [Act.put, List.getElem_toArray, List.getElem_cons_succ, List.getElem_cons_zero, List.setIfInBounds_toArray, List.set_cons_succ, List.set_cons_zero])
              refine HeadAt.takeW (i := 4) (.pointer (some ⟨b, off + j * 2, none⟩)) rfl (by kernel_rfl) (.inl ⟨rfl, fun w' z => ?_⟩) S0 ?_
              · (have i1 : (0 : Int) ≤ (j : Int) := (by omega); have i2 : (j : Int) < (N : Int) := (by omega); simp [go_sem, i1, i2])
              (try simp only [Act.put, List.getElem_toArray, List.getElem_cons_succ, List.getElem_cons_zero, List.setIfInBounds_toArray, List.set_cons_succ, List.set_cons_zero])
              refine HeadAt.takeW (i := 5) (.pointer (some ⟨b, off + j * 2 + 1, none⟩)) rfl (by kernel_rfl) (.inl ⟨rfl, fun _ _ => by simp [go_sem]⟩) S0 ?_
              (try simp only [Act.put, List.getElem_toArray, List.getElem_cons_succ, List.getElem_cons_zero, List.setIfInBounds_toArray, List.set_cons_succ, List.set_cons_zero])
              refine HeadAt.takeW (i := 6) (.slice aj mj cj) rfl (by kernel_rfl) (.inl ⟨rfl, fun w' z => ?_⟩) S0 ?_
              · (have z0 := (hcj.below z).1; simp [go_sem, z0])
              (try simp only [Act.put, List.getElem_toArray, List.getElem_cons_succ, List.getElem_cons_zero, List.setIfInBounds_toArray, List.set_cons_succ, List.set_cons_zero])
              refine HeadAt.takeW (i := 7) (.slice (some ⟨b, off, none⟩) N c) rfl (by kernel_rfl) (.inl ⟨rfl, fun _ _ => by simp [go_sem]⟩) S0 ?_
              (try simp only [Act.put, List.getElem_toArray, List.getElem_cons_succ, List.getElem_cons_zero, List.setIfInBounds_toArray, List.set_cons_succ, List.set_cons_zero])
              refine HeadAt.takeW (i := 8) (.int .i64 (i : Int)) rfl (by kernel_rfl) (.inl ⟨rfl, fun _ _ => by simp [go_sem]⟩) S0 ?_
              (try simp only [Act.put, List.getElem_toArray, List.getElem_cons_succ, List.getElem_cons_zero, List.setIfInBounds_toArray, List.set_cons_succ, List.set_cons_zero])
              refine HeadAt.takeW (i := 9) (.pointer (some ⟨b, off + i * 2, none⟩)) rfl (by kernel_rfl) (.inl ⟨rfl, fun w' z => ?_⟩) S0 ?_
              · (have i1 : (0 : Int) ≤ (i : Int) := (by omega); have i2 : (i : Int) < (N : Int) := (by omega); simp [go_sem, i1, i2])
              (try simp only [Act.put, List.getElem_toArray, List.getElem_cons_succ, List.getElem_cons_zero, List.setIfInBounds_toArray, List.set_cons_succ, List.set_cons_zero])
              refine HeadAt.takeW (i := 10) (.pointer (some ⟨b, off + i * 2 + 1, none⟩)) rfl (by kernel_rfl) (.inl ⟨rfl, fun _ _ => by simp [go_sem]⟩) S0 ?_
              (try simp only [Act.put, List.getElem_toArray, List.getElem_cons_succ, List.getElem_cons_zero, List.setIfInBounds_toArray, List.set_cons_succ, List.set_cons_zero])
              refine HeadAt.takeW (i := 11) (.slice ai mi ci) rfl (by kernel_rfl) (.inl ⟨rfl, fun w' z => ?_⟩) S0 ?_
              · (have z0 := (hci.below z).1; simp [go_sem, z0])
              (try simp only [Act.put, List.getElem_toArray, List.getElem_cons_succ, List.getElem_cons_zero, List.setIfInBounds_toArray, List.set_cons_succ, List.set_cons_zero])
              refine HeadAt.one (i := 12) rfl (by kernel_rfl) ?_
              generalize hK : Upto _ _ = K0
              (try simp only [Act.put, List.getElem_toArray, List.getElem_cons_succ, List.getElem_cons_zero, List.setIfInBounds_toArray, List.set_cons_succ, List.set_cons_zero])
              go_wp2_with fail
              refine (hsm1 _ S0).mono ?_
              rintro e V1 ⟨rfl, hb1⟩
              go_wp2_with fail
              replace S0 := Below.trans S0 (hb1.mono (Below.size S0))
              clear hb1
              subst hK
              refine ⟨S0, ?_⟩
              (try simp only [Act.put, List.getElem_toArray, List.getElem_cons_succ, List.getElem_cons_zero, List.setIfInBounds_toArray, List.set_cons_succ, List.set_cons_zero])
              refine HeadAt.takeW (i := 13) (.bool false) rfl (by kernel_rfl) (.inl ⟨rfl, fun _ _ => by simp [go_sem]⟩) S0 ?_
              (try simp only [Act.put, List.getElem_toArray, List.getElem_cons_succ, List.getElem_cons_zero, List.setIfInBounds_toArray, List.set_cons_succ, List.set_cons_zero])
              refine HeadAt.takeW (i := 14) (.bool false) rfl (by kernel_rfl) (.inl ⟨rfl, fun _ _ => by simp [go_sem]⟩) S0 ?_
              (try simp only [Act.put, List.getElem_toArray, List.getElem_cons_succ, List.getElem_cons_zero, List.setIfInBounds_toArray, List.set_cons_succ, List.set_cons_zero])
              refine HeadAt.takeW (i := 15) (.bool false) rfl (by kernel_rfl) (.inl ⟨rfl, fun _ _ => by simp [go_sem]⟩) S0 ?_
              (try simp only [Act.put, List.getElem_toArray, List.getElem_cons_succ, List.getElem_cons_zero, List.setIfInBounds_toArray, List.set_cons_succ, List.set_cons_zero])
              refine HeadAt.done (by kernel_rfl) ?_
              (try simp only [Act.put, List.drop_succ_cons, List.drop_zero, List.getElem_toArray, List.getElem_cons_succ, List.getElem_cons_zero])
              go_wp2_with fail
              refine NoPanic.normal ?_
              have hb2 := hb.trans (Below.mono S0 hb.size)
              clear S0 hcj hci hsm
              go_wp2
              go_roundw
              case rel => exact ⟨j + 1, false, by omega, by go_num, rfl, HF2, hb2⟩
              case measure => simp [intOf]; omega
            | false =>
              rw [hsame] at hsm1 hst
              have HF2 := hid (show true = !decide (Li ∈ (rs.take (j + 1)).map (·.2)) by rw [hst]; rfl)
              clear hno hst hsame hf
              go_upto_region 10 with fail
              have S0 : BlS wr wr.drew := (Below.refl wr.heap.size wr).drew
              refine wp_region_headW 16 (fun w' => BlS wr w') (by kernel_rfl) (by kernel_rfl) ?_
              generalize wr.drew = Y0 at *
              refine HeadAt.takeW (i := 0) (.bool true) rfl (by kernel_rfl) (.inl ⟨rfl, fun _ _ => by simp [go_sem]⟩) S0 ?_
              (try simp only [Act.put, List.getElem_toArray, List.getElem_cons_succ, List.getElem_cons_zero, List.setIfInBounds_toArray, List.set_cons_succ, List.set_cons_zero])
              refine HeadAt.takeW (i := 1) (.bool true) rfl (by kernel_rfl) (.inl ⟨rfl, fun _ _ => by simp [go_sem]⟩) S0 ?_
              (try simp only [Act.put, List.getElem_toArray, List.getElem_cons_succ, List.getElem_cons_zero, List.setIfInBounds_toArray, List.set_cons_succ, List.set_cons_zero])
              refine HeadAt.takeW (i := 2) (.slice (some ⟨b, off, none⟩) N c) rfl (by kernel_rfl) (.inl ⟨rfl, fun _ _ => by simp [go_sem]⟩) S0 ?_
              (try simp only [Act.put, List.getElem_toArray, List.getElem_cons_succ, List.getElem_cons_zero, List.setIfInBounds_toArray, List.set_cons_succ, List.set_cons_zero])
              refine HeadAt.takeW (i := 3) (.int .i64 (j : Int)) rfl (by kernel_rfl) (.inl ⟨rfl, fun _ _ => by simp [go_sem]⟩) S0 ?_
              (try simp only [Act.put, List.getElem_toArray, List.getElem_cons_succ, List.getElem_cons_zero, List.setIfInBounds_toArray, List.set_cons_succ, List.set_cons_zero])
              refine HeadAt.takeW (i := 4) (.pointer (some ⟨b, off + j * 2, none⟩)) rfl (by kernel_rfl) (.inl ⟨rfl, fun w' z => ?_⟩) S0 ?_
              · (have i1 : (0 : Int) ≤ (j : Int) := (by omega); have i2 : (j : Int) < (N : Int) := (by omega); simp [go_sem, i1, i2])
              (try simp only [Act.put, List.getElem_toArray, List.getElem_cons_succ, List.getElem_cons_zero, List.setIfInBounds_toArray, List.set_cons_succ, List.set_cons_zero])
              refine HeadAt.takeW (i := 5) (.pointer (some ⟨b, off + j * 2 + 1, none⟩)) rfl (by kernel_rfl) (.inl ⟨rfl, fun _ _ => by simp [go_sem]⟩) S0 ?_
              (try simp only [Act.put, List.getElem_toArray, List.getElem_cons_succ, List.getElem_cons_zero, List.setIfInBounds_toArray, List.set_cons_succ, List.set_cons_zero])
              refine HeadAt.takeW (i := 6) (.slice aj mj cj) rfl (by kernel_rfl) (.inl ⟨rfl, fun w' z => ?_⟩) S0 ?_
              · (have z0 := (hcj.below z).1; simp [go_sem, z0])
              (try simp only [Act.put, List.getElem_toArray, List.getElem_cons_succ, List.getElem_cons_zero, List.setIfInBounds_toArray, List.set_cons_succ, List.set_cons_zero])
              refine HeadAt.takeW (i := 7) (.slice (some ⟨b, off, none⟩) N c) rfl (by kernel_rfl) (.inl ⟨rfl, fun _ _ => by simp [go_sem]⟩) S0 ?_
              (try simp only [Act.put, List.getElem_toArray, List.getElem_cons_succ, List.getElem_cons_zero, List.setIfInBounds_toArray, List.set_cons_succ, List.set_cons_zero])
              refine HeadAt.takeW (i := 8) (.int .i64 (i : Int)) rfl (by kernel_rfl) (.inl ⟨rfl, fun _ _ => by simp [go_sem]⟩) S0 ?_
              (try simp only [Act.put, List.getElem_toArray, List.getElem_cons_succ, List.getElem_cons_zero, List.setIfInBounds_toArray, List.set_cons_succ, List.set_cons_zero])
              refine HeadAt.takeW (i := 9) (.pointer (some ⟨b, off + i * 2, none⟩)) rfl (by kernel_rfl) (.inl ⟨rfl, fun w' z => ?_⟩) S0 ?_
              · (have i1 : (0 : Int) ≤ (i : Int) := (by omega); have i2 : (i : Int) < (N : Int) := (by omega); simp [go_sem, i1, i2])
              (try simp only [Act.put, List.getElem_toArray, List.getElem_cons_succ, List.getElem_cons_zero, List.setIfInBounds_toArray, List.set_cons_succ, List.set_cons_zero])
              refine HeadAt.takeW (i := 10) (.pointer (some ⟨b, off + i * 2 + 1, none⟩)) rfl (by kernel_rfl) (.inl ⟨rfl, fun _ _ => by simp [go_sem]⟩) S0 ?_
              (try simp only [Act.put, List.getElem_toArray, List.getElem_cons_succ, List.getElem_cons_zero, List.setIfInBounds_toArray, List.set_cons_succ, List.set_cons_zero])
              refine HeadAt.takeW (i := 11) (.slice ai mi ci) rfl (by kernel_rfl) (.inl ⟨rfl, fun w' z => ?_⟩) S0 ?_
              · (have z0 := (hci.below z).1; simp [go_sem, z0])
              (try simp only [Act.put, List.getElem_toArray, List.getElem_cons_succ, List.getElem_cons_zero, List.setIfInBounds_toArray, List.set_cons_succ, List.set_cons_zero])
              refine HeadAt.one (i := 12) rfl (by kernel_rfl) ?_
              generalize hK : Upto _ _ = K0
              (try simp only [Act.put, List.getElem_toArray, List.getElem_cons_succ, List.getElem_cons_zero, List.setIfInBounds_toArray, List.set_cons_succ, List.set_cons_zero])
              go_wp2_with fail
              refine (hsm1 _ S0).mono ?_
              rintro e V1 ⟨rfl, hb1⟩
              go_wp2_with fail
              replace S0 := Below.trans S0 (hb1.mono (Below.size S0))
              clear hb1
              subst hK
              refine ⟨S0, ?_⟩
              (try simp only [Act.put, List.getElem_toArray, List.getElem_cons_succ, List.getElem_cons_zero, List.setIfInBounds_toArray, List.set_cons_succ, List.set_cons_zero])
              refine HeadAt.takeW (i := 13) (.bool true) rfl (by kernel_rfl) (.inl ⟨rfl, fun _ _ => by simp [go_sem]⟩) S0 ?_
              (try simp only [Act.put, List.getElem_toArray, List.getElem_cons_succ, List.getElem_cons_zero, List.setIfInBounds_toArray, List.set_cons_succ, List.set_cons_zero])
              refine HeadAt.takeW (i := 14) (.bool true) rfl (by kernel_rfl) (.inl ⟨rfl, fun _ _ => by simp [go_sem]⟩) S0 ?_
              (try simp only [Act.put, List.getElem_toArray, List.getElem_cons_succ, List.getElem_cons_zero, List.setIfInBounds_toArray, List.set_cons_succ, List.set_cons_zero])
              refine HeadAt.takeW (i := 15) (.bool true) rfl (by kernel_rfl) (.inl ⟨rfl, fun _ _ => by simp [go_sem]⟩) S0 ?_
              (try simp only [Act.put, List.getElem_toArray, List.getElem_cons_succ, List.getElem_cons_zero, List.setIfInBounds_toArray, List.set_cons_succ, List.set_cons_zero])
              refine HeadAt.done (by kernel_rfl) ?_
              (try simp only [Act.put, List.drop_succ_cons, List.drop_zero, List.getElem_toArray, List.getElem_cons_succ, List.getElem_cons_zero])
              go_wp2_with fail
              refine NoPanic.normal ?_
              have hb2 := hb.trans (Below.mono S0 hb.size)
              clear S0 hcj hci hsm
              go_wp2
              go_roundw
              case rel => exact ⟨j + 1, true, by omega, by go_num, rfl, HF2, hb2⟩
              case measure => simp [intOf]; omega
          | false =>
            have hyes : decide (Li ∈ (rs.take j).map (·.2)) = true := by cases hh : decide (Li ∈ (rs.take j).map (·.2)) with | true => rfl | false => rw [hh] at hf; cases hf
            rw [hyes, Bool.true_or] at hst
            have HF2 := hid (show false = !decide (Li ∈ (rs.take (j + 1)).map (·.2)) by rw [hst]; rfl)
            clear hyes hst hf hsm1
            go_upto_region 10 with fail
            have S0 : BlS wr wr.drew := (Below.refl wr.heap.size wr).drew
            refine wp_region_headW 16 (fun w' => BlS wr w') (by kernel_rfl) (by kernel_rfl) ?_
            generalize wr.drew = Y0 at *
            refine HeadAt.takeW (i := 0) (.bool false) rfl (by kernel_rfl) (.inl ⟨rfl, fun _ _ => by simp [go_sem]⟩) S0 ?_
            (try simp only [Act.put, List.getElem_toArray, List.getElem_cons_succ, List.getElem_cons_zero, List.setIfInBounds_toArray, List.set_cons_succ, List.set_cons_zero])
            refine HeadAt.takeW (i := 1) (.bool false) rfl (by kernel_rfl) (.inl ⟨rfl, fun _ _ => by simp [go_sem]⟩) S0 ?_
            (try simp only [Act.put, List.getElem_toArray, List.getElem_cons_succ, List.getElem_cons_zero, List.setIfInBounds_toArray, List.set_cons_succ, List.set_cons_zero])
            refine HeadAt.takeW (i := 2) undef rfl (by kernel_rfl) (.inr ⟨by kernel_rfl, rfl⟩) S0 ?_
            (try simp only [Act.put, List.getElem_toArray, List.getElem_cons_succ, List.getElem_cons_zero, List.setIfInBounds_toArray, List.set_cons_succ, List.set_cons_zero])
            refine HeadAt.takeW (i := 3) undef rfl (by kernel_rfl) (.inr ⟨by kernel_rfl, rfl⟩) S0 ?_
            (try simp only [Act.put, List.getElem_toArray, List.getElem_cons_succ, List.getElem_cons_zero, List.setIfInBounds_toArray, List.set_cons_succ, List.set_cons_zero])
            refine HeadAt.takeW (i := 4) undef rfl (by kernel_rfl) (.inr ⟨by kernel_rfl, rfl⟩) S0 ?_
            (try simp only [Act.put, List.getElem_toArray, List.getElem_cons_succ, List.getElem_cons_zero, List.setIfInBounds_toArray, List.set_cons_succ, List.set_cons_zero])
            refine HeadAt.takeW (i := 5) undef rfl (by kernel_rfl) (.inr ⟨by kernel_rfl, rfl⟩) S0 ?_
            (try simp only [Act.put, List.getElem_toArray, List.getElem_cons_succ, List.getElem_cons_zero, List.setIfInBounds_toArray, List.set_cons_succ, List.set_cons_zero])
            refine HeadAt.takeW (i := 6) undef rfl (by kernel_rfl) (.inr ⟨by kernel_rfl, rfl⟩) S0 ?_
            (try simp only [Act.put, List.getElem_toArray, List.getElem_cons_succ, List.getElem_cons_zero, List.setIfInBounds_toArray, List.set_cons_succ, List.set_cons_zero])
            refine HeadAt.takeW (i := 7) undef rfl (by kernel_rfl) (.inr ⟨by kernel_rfl, rfl⟩) S0 ?_
            (try simp only [Act.put, List.getElem_toArray, List.getElem_cons_succ, List.getElem_cons_zero, List.setIfInBounds_toArray, List.set_cons_succ, List.set_cons_zero])
            refine HeadAt.takeW (i := 8) undef rfl (by kernel_rfl) (.inr ⟨by kernel_rfl, rfl⟩) S0 ?_
            (try simp only [Act.put, List.getElem_toArray, List.getElem_cons_succ, List.getElem_cons_zero, List.setIfInBounds_toArray, List.set_cons_succ, List.set_cons_zero])
            refine HeadAt.takeW (i := 9) undef rfl (by kernel_rfl) (.inr ⟨by kernel_rfl, rfl⟩) S0 ?_
            (try simp only [Act.put, List.getElem_toArray, List.getElem_cons_succ, List.getElem_cons_zero, List.setIfInBounds_toArray, List.set_cons_succ, List.set_cons_zero])
            refine HeadAt.takeW (i := 10) undef rfl (by kernel_rfl) (.inr ⟨by kernel_rfl, rfl⟩) S0 ?_
            (try simp only [Act.put, List.getElem_toArray, List.getElem_cons_succ, List.getElem_cons_zero, List.setIfInBounds_toArray, List.set_cons_succ, List.set_cons_zero])
            refine HeadAt.takeW (i := 11) undef rfl (by kernel_rfl) (.inr ⟨by kernel_rfl, rfl⟩) S0 ?_
            (try simp only [Act.put, List.getElem_toArray, List.getElem_cons_succ, List.getElem_cons_zero, List.setIfInBounds_toArray, List.set_cons_succ, List.set_cons_zero])
            refine HeadAt.takeW (i := 12) undef rfl (by kernel_rfl) (.inr ⟨by kernel_rfl, rfl⟩) S0 ?_
            (try simp only [Act.put, List.getElem_toArray, List.getElem_cons_succ, List.getElem_cons_zero, List.setIfInBounds_toArray, List.set_cons_succ, List.set_cons_zero])
            refine HeadAt.takeW (i := 13) undef rfl (by kernel_rfl) (.inr ⟨by kernel_rfl, rfl⟩) S0 ?_
            (try simp only [Act.put, List.getElem_toArray, List.getElem_cons_succ, List.getElem_cons_zero, List.setIfInBounds_toArray, List.set_cons_succ, List.set_cons_zero])
            refine HeadAt.takeW (i := 14) (.bool false) rfl (by kernel_rfl) (.inl ⟨rfl, fun _ _ => by simp [go_sem]⟩) S0 ?_
            (try simp only [Act.put, List.getElem_toArray, List.getElem_cons_succ, List.getElem_cons_zero, List.setIfInBounds_toArray, List.set_cons_succ, List.set_cons_zero])
            refine HeadAt.takeW (i := 15) (.bool false) rfl (by kernel_rfl) (.inl ⟨rfl, fun _ _ => by simp [go_sem]⟩) S0 ?_
            (try simp only [Act.put, List.getElem_toArray, List.getElem_cons_succ, List.getElem_cons_zero, List.setIfInBounds_toArray, List.set_cons_succ, List.set_cons_zero])
            refine HeadAt.done (by kernel_rfl) ?_
            (try simp only [Act.put, List.drop_succ_cons, List.drop_zero, List.getElem_toArray, List.getElem_cons_succ, List.getElem_cons_zero])
            go_wp2_with fail
            refine NoPanic.normal ?_
            have hb2 := hb.trans (Below.mono S0 hb.size)
            clear S0 hcj hci hsm
            go_wp2
            go_roundw
            case rel => exact ⟨j + 1, false, by omega, by go_num, rfl, HF2, hb2⟩
            case measure => simp [intOf]; omega
        · obtain rfl : j = i := by omega
          have hjI : ¬ (j : Int) < j := by omega
          have hf := HF.out
          have hst := HST.out
          cases f with
          | true =>
            have HQ2 := hid (show q + 1 = dN ((rs.take (j + 1)).map (·.2)) by
              rw [hst, if_neg (fun h => by rw [decide_eq_true h] at hf; cases hf)])
            clear hst hf HF HST
            go_wp2
            go_roundw
            case rel => exact ⟨j + 1, q + 1, by omega, by omega, by go_num, by go_num, HQ2, hb⟩
            case measure => simp [intOf]; omega
          | false =>
            have HQ2 := hid (show q = dN ((rs.take (j + 1)).map (·.2)) by
              rw [hst, if_pos (by apply Classical.byContradiction; intro h; rw [decide_eq_false h] at hf; cases hf)]
              exact (Nat.add_zero q).symm)
            clear hst hf HF HST
            go_wp2
            go_roundw
            case rel => exact ⟨j + 1, q, by omega, by omega, by go_num, rfl, HQ2, hb⟩
            case measure => simp [intOf]; omega
    · obtain rfl : i = N := by omega
      have HE := hid (show q = M by rw [HQ.out, HN.out, List.take_length]; exact HM.out)
      have hbz := HB.out.trans (hb.mono HB.out.size)
      clear HQ hsm
      go_wp2
      go_ret2
      exact ⟨by rw [HE.out]; rfl, hbz⟩
set_option maxRecDepth 100000 in
set_option maxHeartbeats 5000000 in
theorem rRead_any (aT : Option Addr) (cT : Nat) (X : Pu) (w : World) (hX : Ints w aT X.ts) : Calls Try.prog 29 #[.agg #[.int .i64 X.l, .int .i64 X.n, .int .i64 X.pi, .int .i64 X.sl, .int .i64 X.ga, .int .i64 X.pa, .int .i64 X.sp, .slice aT X.ts.length cT]] w (ReP (rdE X true) (rdLi X true) w) := by
  obtain ⟨W, hW, hb, _, x0⟩ := boxes1 w #[.int .i64 X.l, .int .i64 X.n, .int .i64 X.pi, .int .i64 X.sl, .int .i64 X.ga, .int .i64 X.pa, .int .i64 X.sp, .slice aT X.ts.length cT] 24
  replace hX := hX.below hb (Nat.le_refl _)
  have hkn := fun V h => known_any aT cT X true V h
  unfold KnP at hkn
  have HRE := hid (show rdE X true = if erX X true = 0 then (if sameB (RS X) = true then 0 else 2) else erX X true from rfl)
  have HRL := hid (show rdLi X true = if rdE X true = 0 then ((RS X).headD ([], [])).2 else [] from rfl)
  have HNE := hid (show erX X true = 0 → RS X ≠ [] ∧ (RS X).length ≤ 15625 from fun h => by
    have hv : vB X = true := by
      cases hh : vB X with
      | true => rfl
      | false => unfold erX chkE erO at h; rw [hh] at h; simp at h
    refine ⟨fun hn => ?_, rdL_len X _ (timesB_rng (vB_ok hv).2.2).1 (by have := (vB_ok hv).2.1; omega)⟩
    unfold erX erO at h
    rw [hn] at h
    unfold chkE at h
    rw [hv] at h
    simp at h)
  have hsm := fun a b ca cb xs ys V h1 h2 => SameInts_any a b ca cb xs ys V h1 h2
  generalize RS X = rs at *
  generalize rdE X true = RE at *
  generalize rdLi X true = RL at *
  generalize erX X true = E at *
  generalize X.ts.length = n at *
  have c0 := x0.cell 0 rfl; have c1 := x0.cell 1 rfl; have c2 := x0.cell 2 rfl; have c3 := x0.cell 3 rfl; have c4 := x0.cell 4 rfl; have c5 := x0.cell 5 rfl; have c6 := x0.cell 6 rfl; have c7 := x0.cell 7 rfl
  go_enter Try.func29, Try.ntmps29
  go_wp2_with fail
  refine (hkn _ hX).mono ?_
  rintro e V ⟨hb1, a, c, rfl, hr⟩
  have HB := hid (hb.trans (hb1.mono hb.size))
  have hWs := hb.size
  clear hb1 hb x0 c0 c1 c2 c3 c4 c5 c6 c7 hkn hW hX
  by_cases hE : E = 0
  rotate_left
  · have hE2 : (E != 0) = true := by rw [bne_iff_ne]; exact hE
    simp only [if_neg hE, List.length_nil]
    have hre := HRE.out
    rw [if_neg hE] at hre
    subst hre
    have hrl := HRL.out
    rw [if_neg hE] at hrl
    subst hrl
    clear hE HRE HRL HNE hr
    go_wp2
    go_ret2
    exact ⟨HB.out, none, 0, rfl, Iz.none_ _ _⟩
  · subst hE
    rw [if_pos rfl] at hr
    have hre := HRE.out
    rw [if_pos rfl] at hre
    obtain ⟨hne, hn15⟩ := HNE.out rfl
    simp only [if_true]
    obtain ⟨r0, hr0⟩ : ∃ r0, rs[0]? = some r0 := ⟨_, List.getElem?_eq_getElem (List.length_pos_iff.2 hne)⟩
    have HSB := hid (show sameB rs = true ↔ ∀ r ∈ rs, r.2 = r0.2 by
      cases rs with
      | nil => cases hr0
      | cons r t =>
        cases hr0
        unfold sameB cntR slB
        simp only [decide_eq_true_eq]
        rw [List.length_filter_eq_length_iff]
        simp only [decide_eq_true_eq])
    have HHD := hid (show (rs.headD ([], [])).2 = r0.2 by cases rs with | nil => cases hr0 | cons r t => cases hr0; rfl)
    have HRE2 := hid hre
    obtain ⟨b, off, a1, c1, a0, c0', rfl, hbl, q1, q2, i1, i2⟩ := hr 0 r0 hr0
    have HC0 := hid (show ClB V b (off + 1) (.slice a0 r0.2.length c0') from ⟨by simpa using q2, hbl⟩)
    have HI0 := hid i2
    obtain ⟨m0, hm0⟩ : ∃ m0, m0 = r0.2.length := ⟨_, rfl⟩
    have HM0 := hid hm0
    rw [← hm0] at HC0
    have HR := hid hr
    obtain ⟨N, hN⟩ : ∃ N, N = rs.length := ⟨_, rfl⟩
    have HN := hid hN
    have hN0 : 0 < N := by rw [hN]; exact List.length_pos_iff.2 hne
    rw [← hN] at hn15 ⊢
    clear hN hm0 q1 q2 i1 i2 hr hr0 hbl hre HRE HNE hne
    have h0N : (0 : Int) < (N : Int) := by omega
    go_wp2
    go_loopw [2, 3, 6] (fun v2 v3 v6 wr => ∃ k : Nat, k ≤ N ∧ v2 = .slice none 0 0 ∧ v3 = .int .i64 0 ∧ v6 = .int .i64 (k : Int) ∧ Hid (∀ r ∈ rs.take k, r.2 = r0.2) ∧ Below V.heap.size V wr) (fun _ _ v6 _ => N - (intOf v6).toNat)
    case atStart => exact ⟨0, Nat.zero_le _, rfl, rfl, rfl, hid (fun r h => by simp at h), Below.refl _ _⟩
    case round =>
      obtain ⟨k, hk, rfl, rfl, rfl, HA, hb⟩ := hrel
      by_cases hlt : k < N
      · obtain ⟨r, hrk⟩ : ∃ r, rs[k]? = some r := ⟨_, List.getElem?_eq_getElem (by rw [← HN.out]; exact hlt)⟩
        obtain ⟨b', off', a1', c1', ak, ck, eb, hbl, q1, q2, i1, i2⟩ := HR.out k r hrk
        simp only [Option.some.injEq, Addr.mk.injEq, and_true] at eb
        obtain ⟨rfl, rfl⟩ := eb
        have hkI : (k : Int) < N := by omega
        have hk0 : (0 : Int) ≤ (k : Int) := by omega
        have hck := (show ClB V b (off + k * 2 + 1) (.slice ak r.2.length ck) from ⟨q2, hbl⟩).below hb
        have hc0 := HC0.out.below hb
        have hsm1 := fun Vz (hz : BlS wr Vz) => hsm ak a0 ck c0' r.2 r0.2 Vz ((i2.i.below hb (Nat.le_refl _)).below hz (Nat.le_refl _)) ((HI0.out.i.below hb (Nat.le_refl _)).below hz (Nat.le_refl _))
        obtain ⟨mk, hmk⟩ : ∃ mk, mk = r.2.length := ⟨_, rfl⟩
        rw [← hmk, ← HM0.out] at hsm1
        rw [← hmk] at hck
        have hmem := List.mem_of_getElem? hrk
        have htk : rs.take (k + 1) = rs.take k ++ [r] := by rw [List.take_add_one, hrk]; rfl
        clear q1 q2 hbl i1 i2 hrk hmk
        cases hsame : decide (r.2 = r0.2) with
        | true =>
          rw [hsame] at hsm1
          have HA2 := hid (show ∀ x ∈ rs.take (k + 1), x.2 = r0.2 from fun x hx => by
            rw [htk] at hx
            rcases List.mem_append.1 hx with hx | hx
            · exact HA.out x hx
            · rw [List.mem_singleton.1 hx]; exact of_decide_eq_true hsame)
          clear hsame htk hmem
          go_upto_region 7 with fail
          have S0 : BlS wr wr.drew := (Below.refl wr.heap.size wr).drew
          refine wp_region_headW 11 (fun w' => BlS wr w') (by kernel_rfl) (by kernel_rfl) ?_
          generalize wr.drew = Y0 at *
          refine HeadAt.takeW (i := 0) (.slice (some ⟨b, off, none⟩) N c) rfl (by kernel_rfl) (.inl ⟨rfl, fun _ _ => by simp [go_sem]⟩) S0 ?_
          (try simp only [Act.put, List.getElem_toArray, List.getElem_cons_succ, List.getElem_cons_zero, List.setIfInBounds_toArray, List.set_cons_succ, List.set_cons_zero])
          refine HeadAt.takeW (i := 1) (.int .i64 (k : Int)) rfl (by kernel_rfl) (.inl ⟨rfl, fun _ _ => by simp [go_sem]⟩) S0 ?_
          (try simp only [Act.put, List.getElem_toArray, List.getElem_cons_succ, List.getElem_cons_zero, List.setIfInBounds_toArray, List.set_cons_succ, List.set_cons_zero])
          refine HeadAt.takeW (i := 2) (.pointer (some ⟨b, off + k * 2, none⟩)) rfl (by kernel_rfl) (.inl ⟨rfl, fun w' z => ?_⟩) S0 ?_
          · (have i1 : (0 : Int) ≤ (k : Int) := (by omega); have i2 : (k : Int) < (N : Int) := (by omega); simp [go_sem, i1, i2])
          (try simp only [Act.put, List.getElem_toArray, List.getElem_cons_succ, List.getElem_cons_zero, List.setIfInBounds_toArray, List.set_cons_succ, List.set_cons_zero])
          refine HeadAt.takeW (i := 3) (.pointer (some ⟨b, off + k * 2 + 1, none⟩)) rfl (by kernel_rfl) (.inl ⟨rfl, fun _ _ => by simp [go_sem]⟩) S0 ?_
          (try simp only [Act.put, List.getElem_toArray, List.getElem_cons_succ, List.getElem_cons_zero, List.setIfInBounds_toArray, List.set_cons_succ, List.set_cons_zero])
          refine HeadAt.takeW (i := 4) (.slice ak mk ck) rfl (by kernel_rfl) (.inl ⟨rfl, fun w' z => ?_⟩) S0 ?_
          · (have z0 := (hck.below z).1; simp [go_sem, z0])
          (try simp only [Act.put, List.getElem_toArray, List.getElem_cons_succ, List.getElem_cons_zero, List.setIfInBounds_toArray, List.set_cons_succ, List.set_cons_zero])
          refine HeadAt.takeW (i := 5) (.slice (some ⟨b, off, none⟩) N c) rfl (by kernel_rfl) (.inl ⟨rfl, fun _ _ => by simp [go_sem]⟩) S0 ?_
          (try simp only [Act.put, List.getElem_toArray, List.getElem_cons_succ, List.getElem_cons_zero, List.setIfInBounds_toArray, List.set_cons_succ, List.set_cons_zero])
          refine HeadAt.takeW (i := 6) (.pointer (some ⟨b, off, none⟩)) rfl (by kernel_rfl) (.inl ⟨rfl, fun w' z => ?_⟩) S0 ?_
          · (have i3 : ¬ N = 0 := (by omega); simp [go_sem, h0N, i3])
          (try simp only [Act.put, List.getElem_toArray, List.getElem_cons_succ, List.getElem_cons_zero, List.setIfInBounds_toArray, List.set_cons_succ, List.set_cons_zero])
          refine HeadAt.takeW (i := 7) (.pointer (some ⟨b, off + 1, none⟩)) rfl (by kernel_rfl) (.inl ⟨rfl, fun _ _ => by simp [go_sem]⟩) S0 ?_
          (try simp only [Act.put, List.getElem_toArray, List.getElem_cons_succ, List.getElem_cons_zero, List.setIfInBounds_toArray, List.set_cons_succ, List.set_cons_zero])
          refine HeadAt.takeW (i := 8) (.slice a0 m0 c0') rfl (by kernel_rfl) (.inl ⟨rfl, fun w' z => ?_⟩) S0 ?_
          · (have z0 := (hc0.below z).1; simp [go_sem, z0])
          (try simp only [Act.put, List.getElem_toArray, List.getElem_cons_succ, List.getElem_cons_zero, List.setIfInBounds_toArray, List.set_cons_succ, List.set_cons_zero])
          refine HeadAt.one (i := 9) rfl (by kernel_rfl) ?_
          generalize hK : Upto _ _ = K0
          (try simp only [Act.put, List.getElem_toArray, List.getElem_cons_succ, List.getElem_cons_zero, List.setIfInBounds_toArray, List.set_cons_succ, List.set_cons_zero])
          go_wp2_with fail
          refine (hsm1 _ S0).mono ?_
          rintro e V1 ⟨rfl, hb1⟩
          go_wp2_with fail
          replace S0 := Below.trans S0 (hb1.mono (Below.size S0))
          clear hb1
          subst hK
          refine ⟨S0, ?_⟩
          (try simp only [Act.put, List.getElem_toArray, List.getElem_cons_succ, List.getElem_cons_zero, List.setIfInBounds_toArray, List.set_cons_succ, List.set_cons_zero])
          refine HeadAt.takeW (i := 10) (.bool false) rfl (by kernel_rfl) (.inl ⟨rfl, fun _ _ => by simp [go_sem]⟩) S0 ?_
          (try simp only [Act.put, List.getElem_toArray, List.getElem_cons_succ, List.getElem_cons_zero, List.setIfInBounds_toArray, List.set_cons_succ, List.set_cons_zero])
          refine HeadAt.done (by kernel_rfl) ?_
          (try simp only [Act.put, List.drop_succ_cons, List.drop_zero, List.getElem_toArray, List.getElem_cons_succ, List.getElem_cons_zero])
          go_wp2_with fail
          refine NoPanic.normal ?_
          have hb2 := hb.trans (Below.mono S0 hb.size)
          clear S0 hck hc0 hsm
          go_wp2
          go_roundw
          case rel => exact ⟨k + 1, by omega, rfl, rfl, by go_num, HA2, hb2⟩
          case measure => simp [intOf]; omega
        | false =>
          rw [hsame] at hsm1
          have HNO := hid (show RE = 2 by
            rw [HRE2.out, if_neg]
            rw [HSB.out]
            intro h
            rw [decide_eq_true (h r hmem)] at hsame; cases hsame)
          have HRL2 := hid (show RL = [] by rw [HRL.out, HNO.out]; rfl)
          clear hsame htk hmem
          go_upto_region 7 with fail
          have S0 : BlS wr wr.drew := (Below.refl wr.heap.size wr).drew
          refine wp_region_headW 11 (fun w' => BlS wr w') (by kernel_rfl) (by kernel_rfl) ?_
          generalize wr.drew = Y0 at *
          refine HeadAt.takeW (i := 0) (.slice (some ⟨b, off, none⟩) N c) rfl (by kernel_rfl) (.inl ⟨rfl, fun _ _ => by simp [go_sem]⟩) S0 ?_
          (try simp only [Act.put, List.getElem_toArray, List.getElem_cons_succ, List.getElem_cons_zero, List.setIfInBounds_toArray, List.set_cons_succ, List.set_cons_zero])
          refine HeadAt.takeW (i := 1) (.int .i64 (k : Int)) rfl (by kernel_rfl) (.inl ⟨rfl, fun _ _ => by simp [go_sem]⟩) S0 ?_
          (try simp only [Act.put, List.getElem_toArray, List.getElem_cons_succ, List.getElem_cons_zero, List.setIfInBounds_toArray, List.set_cons_succ, List.set_cons_zero])
          refine HeadAt.takeW (i := 2) (.pointer (some ⟨b, off + k * 2, none⟩)) rfl (by kernel_rfl) (.inl ⟨rfl, fun w' z => ?_⟩) S0 ?_
          · (have i1 : (0 : Int) ≤ (k : Int) := (by omega); have i2 : (k : Int) < (N : Int) := (by omega); simp [go_sem, i1, i2])
          (try simp only [Act.put, List.getElem_toArray, List.getElem_cons_succ, List.getElem_cons_zero, List.setIfInBounds_toArray, List.set_cons_succ, List.set_cons_zero])
          refine HeadAt.takeW (i := 3) (.pointer (some ⟨b, off + k * 2 + 1, none⟩)) rfl (by kernel_rfl) (.inl ⟨rfl, fun _ _ => by simp [go_sem]⟩) S0 ?_
          (try simp only [Act.put, List.getElem_toArray, List.getElem_cons_succ, List.getElem_cons_zero, List.setIfInBounds_toArray, List.set_cons_succ, List.set_cons_zero])
          refine HeadAt.takeW (i := 4) (.slice ak mk ck) rfl (by kernel_rfl) (.inl ⟨rfl, fun w' z => ?_⟩) S0 ?_
          · (have z0 := (hck.below z).1; simp [go_sem, z0])
          (try simp only [Act.put, List.getElem_toArray, List.getElem_cons_succ, List.getElem_cons_zero, List.setIfInBounds_toArray, List.set_cons_succ, List.set_cons_zero])
          refine HeadAt.takeW (i := 5) (.slice (some ⟨b, off, none⟩) N c) rfl (by kernel_rfl) (.inl ⟨rfl, fun _ _ => by simp [go_sem]⟩) S0 ?_
          (try simp only [Act.put, List.getElem_toArray, List.getElem_cons_succ, List.getElem_cons_zero, List.setIfInBounds_toArray, List.set_cons_succ, List.set_cons_zero])
          refine HeadAt.takeW (i := 6) (.pointer (some ⟨b, off, none⟩)) rfl (by kernel_rfl) (.inl ⟨rfl, fun w' z => ?_⟩) S0 ?_
          · (have i3 : ¬ N = 0 := (by omega); simp [go_sem, h0N, i3])
          (try simp only [Act.put, List.getElem_toArray, List.getElem_cons_succ, List.getElem_cons_zero, List.setIfInBounds_toArray, List.set_cons_succ, List.set_cons_zero])
          refine HeadAt.takeW (i := 7) (.pointer (some ⟨b, off + 1, none⟩)) rfl (by kernel_rfl) (.inl ⟨rfl, fun _ _ => by simp [go_sem]⟩) S0 ?_
          (try simp only [Act.put, List.getElem_toArray, List.getElem_cons_succ, List.getElem_cons_zero, List.setIfInBounds_toArray, List.set_cons_succ, List.set_cons_zero])
          refine HeadAt.takeW (i := 8) (.slice a0 m0 c0') rfl (by kernel_rfl) (.inl ⟨rfl, fun w' z => ?_⟩) S0 ?_
          · (have z0 := (hc0.below z).1; simp [go_sem, z0])
          (try simp only [Act.put, List.getElem_toArray, List.getElem_cons_succ, List.getElem_cons_zero, List.setIfInBounds_toArray, List.set_cons_succ, List.set_cons_zero])
          refine HeadAt.one (i := 9) rfl (by kernel_rfl) ?_
          generalize hK : Upto _ _ = K0
          (try simp only [Act.put, List.getElem_toArray, List.getElem_cons_succ, List.getElem_cons_zero, List.setIfInBounds_toArray, List.set_cons_succ, List.set_cons_zero])
          go_wp2_with fail
          refine (hsm1 _ S0).mono ?_
          rintro e V1 ⟨rfl, hb1⟩
          go_wp2_with fail
          replace S0 := Below.trans S0 (hb1.mono (Below.size S0))
          clear hb1
          subst hK
          refine ⟨S0, ?_⟩
          (try simp only [Act.put, List.getElem_toArray, List.getElem_cons_succ, List.getElem_cons_zero, List.setIfInBounds_toArray, List.set_cons_succ, List.set_cons_zero])
          refine HeadAt.takeW (i := 10) (.bool true) rfl (by kernel_rfl) (.inl ⟨rfl, fun _ _ => by simp [go_sem]⟩) S0 ?_
          (try simp only [Act.put, List.getElem_toArray, List.getElem_cons_succ, List.getElem_cons_zero, List.setIfInBounds_toArray, List.set_cons_succ, List.set_cons_zero])
          refine HeadAt.done (by kernel_rfl) ?_
          (try simp only [Act.put, List.drop_succ_cons, List.drop_zero, List.getElem_toArray, List.getElem_cons_succ, List.getElem_cons_zero])
          go_wp2_with fail
          refine NoPanic.normal ?_
          have hb2 := HB.out.trans ((hb.trans (Below.mono S0 hb.size)).mono HB.out.size)
          clear S0 hck hc0 hsm
          go_wp2
          go_ret2
          exact ⟨hb2, none, 0, by rw [HNO.out, HRL2.out]; rfl, by rw [HRL2.out]; exact Iz.none_ _ _⟩
      · obtain rfl : k = N := by omega
        have HSM := hid (show RE = 0 by
          rw [HRE2.out, if_pos]
          rw [HSB.out]
          have := HA.out
          rw [HN.out, List.take_length] at this
          exact this)
        have HRL2 := hid (show RL = r0.2 by rw [HRL.out, HSM.out, if_pos rfl, HHD.out])
        have hc0 := (HC0.out.below hb).1
        have hiz := HI0.out.below hb
        have HZ := hid (show ReP RE RL w (.returned (.tuple #[.slice a0 m0 c0', .int .i64 0])) wr from ⟨HB.out.trans (hb.mono HB.out.size), a0, c0', by rw [HSM.out, HRL2.out, HM0.out], by rw [HRL2.out]; exact hiz.mono hWs⟩)
        clear HA hsm hiz
        go_wp2
        go_ret2
        exact HZ.out
end Go.Proofs.Yteianfbdhakhpaa
