import Derived.Test.YtmkmnedojgigoaaN2
namespace Go.Proofs.Ytmkmnedojgigoaa
open Go.RowKit

set_option maxRecDepth 100000 in
set_option maxHeartbeats 1000000 in
theorem isStandR_any (R : Nat) (an ac : Option Addr) (cn cc : Nat) (N C : List Int) (p c : Int) (w : World) (hv : Vw R N C) :
    Calls Try.prog 65 #[.agg #[.int .i64 (R : Int), .slice an N.length cn, .slice ac C.length cc], .agg #[.int .i64 p, .int .i64 c]] w fun e w' => e = .returned (.bool (inR 0 p (R - 1) && inR 0 c 20)) ∧ Below w.heap.size w w' := by
  obtain ⟨W, hW, hb, hs, x0, x1⟩ := boxes2 w #[.int .i64 (R : Int), .slice an N.length cn, .slice ac C.length cc] 24 #[.int .i64 p, .int .i64 c] 26
  clear hs
  have c0 := x0.cell 0 rfl; have c1 := x0.cell 1 rfl; have c2 := x0.cell 2 rfl; have d0 := x1.cell 0 rfl; have d1 := x1.cell 1 rfl
  cases hp : inR 0 p (R - 1)
  all_goals
    go_enter Try.func65, Try.ntmps65
    go_wp2_with fail
    refine (rIsPlace_any _ _ _ _ _ _ _ p W hv).mono ?_
    rintro e W1 ⟨rfl, hb1⟩
    rw [hp]
    (try clear d0 d1); replace x1 := x1.below hb1; have d0 := x1.cell 0 rfl; have d1 := x1.cell 1 rfl; replace hb := hb.trans (hb1.mono hb.size); clear hb1
    go_wp2_with (first | (go_at_call 58; refine (within_any _ _ _ _).mono ?_; rintro e w' ⟨rfl, rfl⟩))
    go_ret
    exact ⟨ret_bool (by simp), hb⟩

set_option maxRecDepth 100000 in
set_option maxHeartbeats 1000000 in
theorem rrun_bad (r : Int) (an ac : Option Addr) (cn cc : Nat) (N C : List Int) (p c : Int) (a : Option Addr) (ca : Nat) (xs : List Int) (w : World) (hN : Ints w an N) (hC : Ints w ac C) (hv : validB r N C = false) :
    Calls Try.prog 22 #[.agg #[.int .i64 r, .slice an N.length cn, .slice ac C.length cc], .agg #[.int .i64 p, .int .i64 c], .slice a xs.length ca] w fun e w' => e = .returned (.tuple #[.agg #[.int .i64 0, .int .i64 0], .int .i64 0, .int .i64 10]) ∧ Below w.heap.size w w' := by
  have hk : chk r N C = 10 := by simp [chk, hv]
  obtain ⟨W, hW, hb, hs, x0, x1, x2⟩ := boxes3 w #[.int .i64 r, .slice an N.length cn, .slice ac C.length cc] 24 #[.int .i64 p, .int .i64 c] 26 #[.int .i64 0, .int .i64 0] 26
  have Hs := hid hs; clear hs
  replace hN := hN.below hb (Nat.le_refl _); replace hC := hC.below hb (Nat.le_refl _)
  have c0 := x0.cell 0 rfl; have c1 := x0.cell 1 rfl; have c2 := x0.cell 2 rfl
  go_enter Try.func22, Try.ntmps22
  go_wp2_with fail
  refine (refCheck_any _ _ _ _ _ _ _ _ hN hC).mono ?_
  rintro e W1 ⟨rfl, hb1⟩
  rw [hk]
  clear hW
  (try clear g0 g1); replace x2 := x2.below hb1; have g0 := x2.cell 0 rfl; have g1 := x2.cell 1 rfl; (try clear h0 h1); have h0 := x2.free 0; have h1 := x2.free 1; replace hb := hb.trans (hb1.mono hb.size); clear hb1
  go_wp2
  refine bodyPost_ret (v := .tuple #[.agg #[.int .i64 0, .int .i64 0], .int .i64 0, .int .i64 10]) ?_ rfl ⟨rfl, ?_⟩
  · simp [results, Try.results22, go_sem, g0, g1]
  · exact (hb.setCell (by simp; omega) _).setCell (by simp; omega) _

theorem okRun_k (R : Nat) (C : List Int) (p c : Int) (xs : List Int) : okRun R C p c xs = ((inR 0 p (R - 1) && inR 0 c 20) && kindsB C (-1) xs) := by
  unfold okRun kindsB
  rw [Bool.and_comm (decide _)]
  congr 2
  · congr 1
    funext x
    rw [Bool.eq_iff_iff]
    simp only [isActB, Bool.or_eq_true, beq_iff_eq, inR_iff]
    omega
  · rw [Bool.eq_iff_iff]; simp; omega
set_option maxRecDepth 100000 in
set_option maxHeartbeats 1000000 in
theorem rrun_arg (R : Nat) (an ac : Option Addr) (cn cc : Nat) (N C : List Int) (p c : Int) (a : Option Addr) (ca : Nat) (xs : List Int) (w : World) (hN : Ints w an N) (hC : Ints w ac C) (hX : Ints w a xs) (hv : Vw R N C) (ho : okRun R C p c xs = false) :
    Calls Try.prog 22 #[.agg #[.int .i64 (R : Int), .slice an N.length cn, .slice ac C.length cc], .agg #[.int .i64 p, .int .i64 c], .slice a xs.length ca] w fun e w' => e = .returned (.tuple #[.agg #[.int .i64 0, .int .i64 0], .int .i64 0, .int .i64 1]) ∧ Below w.heap.size w w' := by
  have hk : chk (R : Int) N C = 0 := by simp [chk, hv.valid]
  rw [okRun_k] at ho
  obtain ⟨W, hW, hb, hs, x0, x1, x2⟩ := boxes3 w #[.int .i64 (R : Int), .slice an N.length cn, .slice ac C.length cc] 24 #[.int .i64 p, .int .i64 c] 26 #[.int .i64 0, .int .i64 0] 26
  have Hs := hid hs; clear hs
  replace hN := hN.below hb (Nat.le_refl _); replace hC := hC.below hb (Nat.le_refl _); replace hX := hX.below hb (Nat.le_refl _)
  have c0 := x0.cell 0 rfl; have c1 := x0.cell 1 rfl; have c2 := x0.cell 2 rfl; have d0 := x1.cell 0 rfl; have d1 := x1.cell 1 rfl
  cases hp : (inR 0 p ((R : Int) - 1) && inR 0 c 20)
  · clear ho
    go_enter Try.func22, Try.ntmps22
    go_wp2_with fail
    refine (refCheck_any _ _ _ _ _ _ _ _ hN hC).mono ?_
    rintro e W1 ⟨rfl, hb1⟩
    rw [hk]
    clear hW
    replace hC := hC.below hb1 (Nat.le_refl _); replace hX := hX.below hb1 (Nat.le_refl _); replace x2 := x2.below hb1; (try clear c0 c1 c2); replace x0 := x0.below hb1; have c0 := x0.cell 0 rfl; have c1 := x0.cell 1 rfl; have c2 := x0.cell 2 rfl; (try clear d0 d1); replace x1 := x1.below hb1; have d0 := x1.cell 0 rfl; have d1 := x1.cell 1 rfl; replace hb := hb.trans (hb1.mono hb.size); clear hb1
    go_wp2_with fail
    refine (isStandR_any _ _ _ _ _ _ _ p c _ hv).mono ?_
    rintro e W2 ⟨rfl, hb1⟩
    rw [hp]
    (try clear g0 g1); replace x2 := x2.below hb1; have g0 := x2.cell 0 rfl; have g1 := x2.cell 1 rfl; (try clear h0 h1); have h0 := x2.free 0; have h1 := x2.free 1; replace hb := hb.trans (hb1.mono hb.size); clear hb1
    clear x0 c0 c1 c2 x1 d0 d1
    go_wp2
    refine bodyPost_ret (v := .tuple #[.agg #[.int .i64 0, .int .i64 0], .int .i64 0, .int .i64 1]) ?_ rfl ⟨rfl, ?_⟩
    · simp [results, Try.results22, go_sem, g0, g1]
    · exact (hb.setCell (by simp; omega) _).setCell (by simp; omega) _
  · have h2 : kindsB C (-1) xs = false := by simpa [hp] using ho
    clear ho
    go_enter Try.func22, Try.ntmps22
    go_wp2_with fail
    refine (refCheck_any _ _ _ _ _ _ _ _ hN hC).mono ?_
    rintro e W1 ⟨rfl, hb1⟩
    rw [hk]
    clear hW
    replace hC := hC.below hb1 (Nat.le_refl _); replace hX := hX.below hb1 (Nat.le_refl _); replace x2 := x2.below hb1; (try clear c0 c1 c2); replace x0 := x0.below hb1; have c0 := x0.cell 0 rfl; have c1 := x0.cell 1 rfl; have c2 := x0.cell 2 rfl; (try clear d0 d1); replace x1 := x1.below hb1; have d0 := x1.cell 0 rfl; have d1 := x1.cell 1 rfl; replace hb := hb.trans (hb1.mono hb.size); clear hb1
    go_wp2_with fail
    refine (isStandR_any _ _ _ _ _ _ _ p c _ hv).mono ?_
    rintro e W2 ⟨rfl, hb1⟩
    rw [hp]
    replace hC := hC.below hb1 (Nat.le_refl _); replace hX := hX.below hb1 (Nat.le_refl _); replace x2 := x2.below hb1; (try clear c0 c1 c2); replace x0 := x0.below hb1; have c0 := x0.cell 0 rfl; have c1 := x0.cell 1 rfl; have c2 := x0.cell 2 rfl; (try clear d0 d1); replace x1 := x1.below hb1; have d0 := x1.cell 0 rfl; have d1 := x1.cell 1 rfl; replace hb := hb.trans (hb1.mono hb.size); clear hb1
    go_wp2_with fail
    refine (areKinds_any _ _ _ _ _ _ _ a ca xs (-1) _ hC hX).mono ?_
    rintro e W2 ⟨rfl, hb1⟩
    rw [h2]
    (try clear g0 g1); replace x2 := x2.below hb1; have g0 := x2.cell 0 rfl; have g1 := x2.cell 1 rfl; (try clear h0 h1); have h0 := x2.free 0; have h1 := x2.free 1; replace hb := hb.trans (hb1.mono hb.size); clear hb1
    clear x0 c0 c1 c2 x1 d0 d1
    go_wp2
    refine bodyPost_ret (v := .tuple #[.agg #[.int .i64 0, .int .i64 0], .int .i64 0, .int .i64 1]) ?_ rfl ⟨rfl, ?_⟩
    · simp [results, Try.results22, go_sem, g0, g1]
    · exact (hb.setCell (by simp; omega) _).setCell (by simp; omega) _

set_option maxRecDepth 100000 in
set_option maxHeartbeats 4000000 in
theorem rrun_ok (R : Nat) (an ac : Option Addr) (cn cc : Nat) (N C : List Int) (p c : Nat) (a : Option Addr) (ca : Nat) (xs : List Int) (w : World) (hN : Ints w an N) (hC : Ints w ac C) (hX : Ints w a xs) (hv : Vw R N C) (ho : okRun R C p c xs = true) :
    Calls Try.prog 22 #[.agg #[.int .i64 (R : Int), .slice an N.length cn, .slice ac C.length cc], .agg #[.int .i64 p, .int .i64 c], .slice a xs.length ca] w fun e w' => e = .returned (.tuple #[.agg #[.int .i64 (runL R N C ⟨p, c⟩ 0 xs).1.p, .int .i64 (runL R N C ⟨p, c⟩ 0 xs).1.c], .int .i64 (runL R N C ⟨p, c⟩ 0 xs).2, .int .i64 0]) ∧ Below w.heap.size w w' := by
  have hk : chk (R : Int) N C = 0 := by simp [chk, hv.valid]
  have ho2 := ho
  rw [okRun_k, Bool.and_eq_true] at ho2
  have hall : xs.all (isActB C) = true := by
    simp only [okRun, Bool.and_eq_true] at ho; exact ho.2.2
  have hlen : xs.length ≤ 20 := by
    simp only [okRun, Bool.and_eq_true, decide_eq_true_eq] at ho; exact ho.2.1
  have hpc := ho2.1
  rw [Bool.and_eq_true, inR_iff, inR_iff] at hpc
  have hpl : p < R := by omega
  have hcl : c ≤ 20 := by omega
  have h1 := ho2.1; have h2 := ho2.2
  clear ho ho2 hpc
  have hN0 := hN; have hC0 := hC; have hX0 := hX
  obtain ⟨W, hW, hb, hs, x0, x1, x2⟩ := boxes3 w #[.int .i64 (R : Int), .slice an N.length cn, .slice ac C.length cc] 24 #[.int .i64 p, .int .i64 c] 26 #[.int .i64 0, .int .i64 0] 26
  have Hs := hid hs; clear hs hN hC hX
  have c0 := x0.cell 0 rfl; have c1 := x0.cell 1 rfl; have c2 := x0.cell 2 rfl; have d0 := x1.cell 0 rfl; have d1 := x1.cell 1 rfl
  go_enter Try.func22, Try.ntmps22
  go_wp2_with fail
  refine (refCheck_any _ _ _ _ _ _ _ _ (hN0.below hb (Nat.le_refl _)) (hC0.below hb (Nat.le_refl _))).mono ?_
  rintro e W1 ⟨rfl, hb1⟩
  rw [hk]
  clear hW
  replace x2 := x2.below hb1; (try clear c0 c1 c2); replace x0 := x0.below hb1; have c0 := x0.cell 0 rfl; have c1 := x0.cell 1 rfl; have c2 := x0.cell 2 rfl; (try clear d0 d1); replace x1 := x1.below hb1; have d0 := x1.cell 0 rfl; have d1 := x1.cell 1 rfl; replace hb := hb.trans (hb1.mono hb.size); clear hb1
  go_wp2_with fail
  refine (isStandR_any _ _ _ _ _ _ _ p c _ hv).mono ?_
  rintro e W2 ⟨rfl, hb1⟩
  rw [h1]
  replace x2 := x2.below hb1; replace x1 := x1.below hb1; (try clear c0 c1 c2); replace x0 := x0.below hb1; have c0 := x0.cell 0 rfl; have c1 := x0.cell 1 rfl; have c2 := x0.cell 2 rfl; replace hb := hb.trans (hb1.mono hb.size); clear hb1
  clear d0 d1
  go_wp2_with fail
  refine (areKinds_any _ _ _ _ _ _ _ a ca xs (-1) _ (hC0.below hb (Nat.le_refl _)) (hX0.below hb (Nat.le_refl _))).mono ?_
  rintro e W3 ⟨rfl, hb1⟩
  rw [h2]
  replace x0 := x0.below hb1; replace x1 := x1.below hb1; replace x2 := x2.below hb1; replace hb := hb.trans (hb1.mono hb.size); clear hb1
  clear c0 c1 c2 h1 h2 hk
  go_wp2_with fail
  go_loopw [7, 10] (fun s7 s10 wr => ∃ (k : Nat) (s : St) (m : Nat), k ≤ xs.length ∧ s10 = .int .i64 k ∧ s7 = .int .i64 m ∧ s.p < R ∧ s.c ≤ 20 + 4000 * k ∧ m ≤ k ∧ runL R N C ⟨p, c⟩ 0 xs = runL R N C s m (xs.drop k) ∧ Below w.heap.size w wr ∧ Bx wr w.heap.size #[.int .i64 (R : Int), .slice an N.length cn, .slice ac C.length cc] 24 ∧ Bx wr (w.heap.size + 1) #[.int .i64 s.p, .int .i64 s.c] 26 ∧ Bx wr (w.heap.size + 1 + 1) #[.int .i64 0, .int .i64 0] 26) (fun _ s10 _ => xs.length - (intOf s10).toNat)
  case atStart => exact ⟨0, ⟨p, c⟩, 0, Nat.zero_le _, rfl, rfl, hpl, by show c ≤ _; omega, Nat.le_refl _, rfl, hb, x0, x1, x2⟩
  case round =>
    clear hb x0 x1 x2
    obtain ⟨k, s, m, hk', rfl, rfl, hsp, hsc, hmk, hn, hb, x0, x1, x2⟩ := hrel
    have Hn := hid hn; clear hn
    by_cases hlt : k < xs.length
    · obtain ⟨b, off, x, hae, hbs, hcx, _, _, hx, hd⟩ := (hX0.below hb (Nat.le_refl _)).at hlt
      have hbw : b < w.heap.size := by
        obtain ⟨b2, off2, hae2, hb2, _⟩ := hX0.2.2 k hlt
        rw [hae] at hae2; cases hae2; exact hb2
      subst hae
      have hact := List.all_eq_true.1 hall x (List.mem_of_getElem? hx.out)
      have hbd := act_bd (N := N) hv hact hsp
      have ac1 : ∀ W : World, Ints W an N → Ints W ac C → Calls Try.prog 66 #[.agg #[.int .i64 (R : Int), .slice an N.length cn, .slice ac C.length cc], .agg #[.int .i64 s.p, .int .i64 s.c], .int .i64 x] W fun e w' => e = .returned (.tuple #[.agg #[.int .i64 (act R N C s x).1.p, .int .i64 (act R N C s x).1.c], .bool (act R N C s x).2]) ∧ Below W.heap.size W w' := fun W h1 h2 =>
        act_any R an ac cn cc N C s x W h1 h2 hv hsp (by omega) hact
      have hr : runL R N C s m (xs.drop k) = runL R N C (act R N C s x).1 (if (act R N C s x).2 then m + 1 else m) (xs.drop (k + 1)) := by rw [hd.out]; rfl
      obtain ⟨⟨⟨p1, c1⟩, mb⟩, hst⟩ : ∃ t, t = act R N C s x := ⟨_, rfl⟩
      rw [← hst] at hbd ac1 hr
      have HR := hid hr
      obtain ⟨hp1l, hc1l⟩ := hbd
      dsimp only at hp1l hc1l ac1
      clear hr hst hact hx hd
      have hkI : (k : Int) < (xs.length : Int) := by omega
      have hk0 : (0 : Int) ≤ (k : Int) := by omega
      go_wp2_with fail
      replace x0 := x0.drew; replace x1 := x1.drew; replace x2 := x2.drew; replace hb := hb.drew
      replace hcx := Below.keep (Below.refl _ _).drew hcx
      refine wp_region_head 12 (fun w' => Bx w' w.heap.size #[.int .i64 (R : Int), .slice an N.length cn, .slice ac C.length cc] 24 ∧ Bx w' (w.heap.size + 1) #[.int .i64 s.p, .int .i64 s.c] 26 ∧ w'.cell? ⟨b, off + k, none⟩ = some (.int .i64 x)) (by kernel_rfl) rfl ?_
      generalize World.drew _ = Y0 at *
      refine HeadAt.take (i := 0) (.agg #[.int .i64 (R : Int), .slice an N.length cn, .slice ac C.length cc]) rfl (by kernel_rfl) (.inl ⟨rfl, fun w' z => ?_⟩) ⟨x0, x1, hcx⟩ ?_
      · (have y := z.1; have z0 := y.cell 0 rfl; have z1 := y.cell 1 rfl; have z2 := y.cell 2 rfl; simp [go_sem, z0, z1, z2])
      refine HeadAt.take (i := 1) (.agg #[.int .i64 s.p, .int .i64 s.c]) rfl (by kernel_rfl) (.inl ⟨rfl, fun w' z => ?_⟩) ⟨x0, x1, hcx⟩ ?_
      · (have y := z.2.1; have z0 := y.cell 0 rfl; have z1 := y.cell 1 rfl; simp [go_sem, z0, z1])
      refine HeadAt.take (i := 2) (.slice (some ⟨b, off, none⟩) xs.length ca) rfl (by kernel_rfl) (.inl ⟨rfl, fun _ _ => by simp [go_sem]⟩) ⟨x0, x1, hcx⟩ ?_
      refine HeadAt.take (i := 3) (.int .i64 k) rfl (by kernel_rfl) (.inl ⟨rfl, fun _ _ => by simp [go_sem]⟩) ⟨x0, x1, hcx⟩ ?_
      refine HeadAt.take (i := 4) (.pointer (some ⟨b, off + k, none⟩)) rfl (by kernel_rfl) (.inl ⟨rfl, fun w' z => ?_⟩) ⟨x0, x1, hcx⟩ ?_
      · simp [go_sem, hlt]
      refine HeadAt.take (i := 5) (.int .i64 x) rfl (by kernel_rfl) (.inl ⟨rfl, fun w' z => ?_⟩) ⟨x0, x1, hcx⟩ ?_
      · (have y := z.2.2; simp [go_sem, y])
      cases mb
      · refine HeadAt.two (i := 6) (j := 10) rfl rfl (by kernel_rfl) ?_ ?_
        · skip
          generalize hK : Upto _ _ = K0
          (try simp only [Act.put, List.getElem_toArray, List.getElem_cons_succ, List.getElem_cons_zero, List.setIfInBounds_toArray, List.set_cons_succ, List.set_cons_zero])
          go_wp2_with fail
          refine (ac1 _ (hN0.below hb (Nat.le_refl _)) (hC0.below hb (Nat.le_refl _))).mono ?_
          rintro e Y3 ⟨rfl, hb1⟩
          replace hcx := Below.keep hb1 hcx
          replace x0 := x0.below hb1; replace x1 := x1.below hb1; replace x2 := x2.below hb1; replace hb := hb.trans (hb1.mono hb.size); clear hb1
          go_wp2_with fail
          subst hK
          refine ⟨⟨x0, x1, hcx⟩, ?_⟩
          refine HeadAt.take (i := 7) (.tuple #[.agg #[.int .i64 p1, .int .i64 c1], .bool false]) rfl (by kernel_rfl) (.inl ⟨rfl, fun _ _ => by simp [go_sem]⟩) ⟨x0, x1, hcx⟩ ?_
          refine HeadAt.take (i := 8) (.agg #[.int .i64 p1, .int .i64 c1]) rfl (by kernel_rfl) (.inl ⟨rfl, fun _ _ => by simp [go_sem]⟩) ⟨x0, x1, hcx⟩ ?_
          refine HeadAt.take (i := 9) (.bool false) rfl (by kernel_rfl) (.inl ⟨rfl, fun _ _ => by simp [go_sem]⟩) ⟨x0, x1, hcx⟩ ?_
          refine HeadAt.one (i := 10) rfl (by kernel_rfl) ?_
          generalize hK : Upto _ _ = K0
          (try simp only [Act.put, List.getElem_toArray, List.getElem_cons_succ, List.getElem_cons_zero, List.setIfInBounds_toArray, List.set_cons_succ, List.set_cons_zero])
          have hb1 := below_one (w := Y3) (.cells #[.int .i64 0, .int .i64 0] 26)
          have xg := Bx.new Y3 #[.int .i64 0, .int .i64 0] 26
          have lg := x2.lt
          replace hcx := Below.keep hb1 hcx
          go_wp2_with fail
          replace x0 := x0.below hb1; replace x1 := x1.below hb1; replace x2 := x2.below hb1; replace hb := hb.trans (hb1.mono hb.size); clear hb1
          generalize Y3.alloc (.cells #[.int .i64 0, .int .i64 0] 26) = Y4 at *
          generalize Y3.heap.size = g at *
          subst hK
          refine ⟨⟨x0, x1, hcx⟩, ?_⟩
          refine HeadAt.one (i := 11) rfl (by kernel_rfl) ?_
          generalize hK : Upto _ _ = K0
          (try simp only [List.getElem_toArray, List.getElem_cons_succ, List.getElem_cons_zero])
          have g0 := xg.cell 0 rfl; have g1 := xg.cell 1 rfl
          have f0 := xg.free 0; have f1 := xg.free 1
          have hcg : ∀ v1 v2 : Value, ∃ Z, (Y4.setCell ⟨g, 0, none⟩ v1).setCell ⟨g, 1, none⟩ v2 = Z ∧ Bx Z g #[v1, v2] 26 ∧ Bx Z w.heap.size #[.int .i64 (R : Int), .slice an N.length cn, .slice ac C.length cc] 24 ∧ Bx Z (w.heap.size + 1) #[.int .i64 s.p, .int .i64 s.c] 26 ∧ Bx Z (w.heap.size + 1 + 1) #[.int .i64 0, .int .i64 0] 26 ∧ Below w.heap.size w Z ∧ Z.cell? ⟨b, off + k, none⟩ = some (.int .i64 x) := fun v1 v2 =>
            ⟨_, rfl, xg.set2 v1 v2, (x0.other (a := ⟨g, 0, none⟩) (by show w.heap.size ≠ g; omega) v1).other (a := ⟨g, 1, none⟩) (by show w.heap.size ≠ g; omega) v2, (x1.other (a := ⟨g, 0, none⟩) (by show w.heap.size + 1 ≠ g; omega) v1).other (a := ⟨g, 1, none⟩) (by show w.heap.size + 1 ≠ g; omega) v2, (x2.other (a := ⟨g, 0, none⟩) (by show w.heap.size + 1 + 1 ≠ g; omega) v1).other (a := ⟨g, 1, none⟩) (by show w.heap.size + 1 + 1 ≠ g; omega) v2, Below.store (Below.store hb (p := ⟨g, 0, none⟩) (by show w.heap.size ≤ g; omega) v1) (p := ⟨g, 1, none⟩) (by show w.heap.size ≤ g; omega) v2,
              by rw [World.cell?_setCell_other _ _ _ _ (fun e => by injection e with e; omega), World.cell?_setCell_other _ _ _ _ (fun e => by injection e with e; omega)]; exact hcx⟩
          obtain ⟨Z, hZ, xgp, x0p, x1p, x2p, hbp, hcxp⟩ := hcg (.int .i64 p1) (.int .i64 c1)
          clear hcg
          go_wp2_with fail
          subst hK
          refine ⟨⟨x0p, x1p, hcxp⟩, ?_⟩
          clear x0 x1 x2 xg hb hcx hZ g0 g1 f0 f1
          refine HeadAt.done (by kernel_rfl) ?_
          (try simp only [List.drop_succ_cons, List.drop_zero])
          have g0 := xgp.cell 0 rfl; have g1 := xgp.cell 1 rfl
          have d0 := x1p.cell 0 rfl; have d1 := x1p.cell 1 rfl
          have f0 := x1p.free 0; have f1 := x1p.free 1
          go_wp2_with fail
          refine NoPanic.normal ?_
          have hst : ∃ Y, (Z.setCell ⟨w.heap.size + 1, 0, none⟩ (.int .i64 p1)).setCell ⟨w.heap.size + 1, 1, none⟩ (.int .i64 c1) = Y ∧ Bx Y w.heap.size #[.int .i64 (R : Int), .slice an N.length cn, .slice ac C.length cc] 24 ∧ Bx Y (w.heap.size + 1) #[.int .i64 p1, .int .i64 c1] 26 ∧ Bx Y (w.heap.size + 1 + 1) #[.int .i64 0, .int .i64 0] 26 ∧ Below w.heap.size w Y :=
            ⟨_, rfl, (x0p.other (a := ⟨w.heap.size + 1, 0, none⟩) (by show w.heap.size ≠ w.heap.size + 1; omega) _).other (a := ⟨w.heap.size + 1, 1, none⟩) (by show w.heap.size ≠ w.heap.size + 1; omega) _, x1p.set2 _ _, (x2p.other (a := ⟨w.heap.size + 1, 0, none⟩) (by show w.heap.size + 1 + 1 ≠ w.heap.size + 1; omega) _).other (a := ⟨w.heap.size + 1, 1, none⟩) (by show w.heap.size + 1 + 1 ≠ w.heap.size + 1; omega) _, Below.store (Below.store hbp (p := ⟨w.heap.size + 1, 0, none⟩) (by show w.heap.size ≤ w.heap.size + 1; omega) _) (p := ⟨w.heap.size + 1, 1, none⟩) (by show w.heap.size ≤ w.heap.size + 1; omega) _⟩
          obtain ⟨Y, hY, y0, y1, y2, hbY⟩ := hst
          go_wp2_with fail
          clear hY
          go_roundw
          case rel => exact ⟨k + 1, ⟨p1, c1⟩, (m), by omega, by go_num, rfl, hp1l, by show c1 ≤ _; omega, by omega, by rw [Hn.out, HR.out]; rfl, hbY, y0, y1, y2⟩
          case measure => simp [intOf]; omega
        · skip
          generalize hK : Upto _ _ = K0
          (try simp only [Act.put, List.getElem_toArray, List.getElem_cons_succ, List.getElem_cons_zero, List.setIfInBounds_toArray, List.set_cons_succ, List.set_cons_zero])
          have hb1 := below_one (w := Y0) (.cells #[.int .i64 0, .int .i64 0] 26)
          have xg := Bx.new Y0 #[.int .i64 0, .int .i64 0] 26
          have lg := x2.lt
          replace hcx := Below.keep hb1 hcx
          go_wp2_with fail
          replace x0 := x0.below hb1; replace x1 := x1.below hb1; replace x2 := x2.below hb1; replace hb := hb.trans (hb1.mono hb.size); clear hb1
          generalize Y0.alloc (.cells #[.int .i64 0, .int .i64 0] 26) = Y1 at *
          generalize Y0.heap.size = g at *
          subst hK
          refine ⟨⟨x0, x1, hcx⟩, ?_⟩
          refine HeadAt.one (i := 6) rfl (by kernel_rfl) ?_
          generalize hK : Upto _ _ = K0
          (try simp only [List.getElem_toArray, List.getElem_cons_succ, List.getElem_cons_zero])
          go_wp2_with fail
          refine (ac1 _ (hN0.below hb (Nat.le_refl _)) (hC0.below hb (Nat.le_refl _))).mono ?_
          rintro e Y3 ⟨rfl, hb1⟩
          replace hcx := Below.keep hb1 hcx
          replace x0 := x0.below hb1; replace x1 := x1.below hb1; replace x2 := x2.below hb1; replace xg := xg.below hb1; replace hb := hb.trans (hb1.mono hb.size); clear hb1
          go_wp2_with fail
          subst hK
          refine ⟨⟨x0, x1, hcx⟩, ?_⟩
          refine HeadAt.take (i := 7) (.tuple #[.agg #[.int .i64 p1, .int .i64 c1], .bool false]) rfl (by kernel_rfl) (.inl ⟨rfl, fun _ _ => by simp [go_sem]⟩) ⟨x0, x1, hcx⟩ ?_
          refine HeadAt.take (i := 8) (.agg #[.int .i64 p1, .int .i64 c1]) rfl (by kernel_rfl) (.inl ⟨rfl, fun _ _ => by simp [go_sem]⟩) ⟨x0, x1, hcx⟩ ?_
          refine HeadAt.take (i := 9) (.bool false) rfl (by kernel_rfl) (.inl ⟨rfl, fun _ _ => by simp [go_sem]⟩) ⟨x0, x1, hcx⟩ ?_
          refine HeadAt.one (i := 11) rfl (by kernel_rfl) ?_
          generalize hK : Upto _ _ = K0
          (try simp only [Act.put, List.getElem_toArray, List.getElem_cons_succ, List.getElem_cons_zero, List.setIfInBounds_toArray, List.set_cons_succ, List.set_cons_zero])
          have g0 := xg.cell 0 rfl; have g1 := xg.cell 1 rfl
          have f0 := xg.free 0; have f1 := xg.free 1
          have hcg : ∀ v1 v2 : Value, ∃ Z, (Y3.setCell ⟨g, 0, none⟩ v1).setCell ⟨g, 1, none⟩ v2 = Z ∧ Bx Z g #[v1, v2] 26 ∧ Bx Z w.heap.size #[.int .i64 (R : Int), .slice an N.length cn, .slice ac C.length cc] 24 ∧ Bx Z (w.heap.size + 1) #[.int .i64 s.p, .int .i64 s.c] 26 ∧ Bx Z (w.heap.size + 1 + 1) #[.int .i64 0, .int .i64 0] 26 ∧ Below w.heap.size w Z ∧ Z.cell? ⟨b, off + k, none⟩ = some (.int .i64 x) := fun v1 v2 =>
            ⟨_, rfl, xg.set2 v1 v2, (x0.other (a := ⟨g, 0, none⟩) (by show w.heap.size ≠ g; omega) v1).other (a := ⟨g, 1, none⟩) (by show w.heap.size ≠ g; omega) v2, (x1.other (a := ⟨g, 0, none⟩) (by show w.heap.size + 1 ≠ g; omega) v1).other (a := ⟨g, 1, none⟩) (by show w.heap.size + 1 ≠ g; omega) v2, (x2.other (a := ⟨g, 0, none⟩) (by show w.heap.size + 1 + 1 ≠ g; omega) v1).other (a := ⟨g, 1, none⟩) (by show w.heap.size + 1 + 1 ≠ g; omega) v2, Below.store (Below.store hb (p := ⟨g, 0, none⟩) (by show w.heap.size ≤ g; omega) v1) (p := ⟨g, 1, none⟩) (by show w.heap.size ≤ g; omega) v2,
              by rw [World.cell?_setCell_other _ _ _ _ (fun e => by injection e with e; omega), World.cell?_setCell_other _ _ _ _ (fun e => by injection e with e; omega)]; exact hcx⟩
          obtain ⟨Z, hZ, xgp, x0p, x1p, x2p, hbp, hcxp⟩ := hcg (.int .i64 p1) (.int .i64 c1)
          clear hcg
          go_wp2_with fail
          subst hK
          refine ⟨⟨x0p, x1p, hcxp⟩, ?_⟩
          clear x0 x1 x2 xg hb hcx hZ g0 g1 f0 f1
          refine HeadAt.done (by kernel_rfl) ?_
          (try simp only [List.drop_succ_cons, List.drop_zero])
          have g0 := xgp.cell 0 rfl; have g1 := xgp.cell 1 rfl
          have d0 := x1p.cell 0 rfl; have d1 := x1p.cell 1 rfl
          have f0 := x1p.free 0; have f1 := x1p.free 1
          go_wp2_with fail
          refine NoPanic.normal ?_
          have hst : ∃ Y, (Z.setCell ⟨w.heap.size + 1, 0, none⟩ (.int .i64 p1)).setCell ⟨w.heap.size + 1, 1, none⟩ (.int .i64 c1) = Y ∧ Bx Y w.heap.size #[.int .i64 (R : Int), .slice an N.length cn, .slice ac C.length cc] 24 ∧ Bx Y (w.heap.size + 1) #[.int .i64 p1, .int .i64 c1] 26 ∧ Bx Y (w.heap.size + 1 + 1) #[.int .i64 0, .int .i64 0] 26 ∧ Below w.heap.size w Y :=
            ⟨_, rfl, (x0p.other (a := ⟨w.heap.size + 1, 0, none⟩) (by show w.heap.size ≠ w.heap.size + 1; omega) _).other (a := ⟨w.heap.size + 1, 1, none⟩) (by show w.heap.size ≠ w.heap.size + 1; omega) _, x1p.set2 _ _, (x2p.other (a := ⟨w.heap.size + 1, 0, none⟩) (by show w.heap.size + 1 + 1 ≠ w.heap.size + 1; omega) _).other (a := ⟨w.heap.size + 1, 1, none⟩) (by show w.heap.size + 1 + 1 ≠ w.heap.size + 1; omega) _, Below.store (Below.store hbp (p := ⟨w.heap.size + 1, 0, none⟩) (by show w.heap.size ≤ w.heap.size + 1; omega) _) (p := ⟨w.heap.size + 1, 1, none⟩) (by show w.heap.size ≤ w.heap.size + 1; omega) _⟩
          obtain ⟨Y, hY, y0, y1, y2, hbY⟩ := hst
          go_wp2_with fail
          clear hY
          go_roundw
          case rel => exact ⟨k + 1, ⟨p1, c1⟩, (m), by omega, by go_num, rfl, hp1l, by show c1 ≤ _; omega, by omega, by rw [Hn.out, HR.out]; rfl, hbY, y0, y1, y2⟩
          case measure => simp [intOf]; omega
      · refine HeadAt.two (i := 6) (j := 10) rfl rfl (by kernel_rfl) ?_ ?_
        · skip
          generalize hK : Upto _ _ = K0
          (try simp only [Act.put, List.getElem_toArray, List.getElem_cons_succ, List.getElem_cons_zero, List.setIfInBounds_toArray, List.set_cons_succ, List.set_cons_zero])
          go_wp2_with fail
          refine (ac1 _ (hN0.below hb (Nat.le_refl _)) (hC0.below hb (Nat.le_refl _))).mono ?_
          rintro e Y3 ⟨rfl, hb1⟩
          replace hcx := Below.keep hb1 hcx
          replace x0 := x0.below hb1; replace x1 := x1.below hb1; replace x2 := x2.below hb1; replace hb := hb.trans (hb1.mono hb.size); clear hb1
          go_wp2_with fail
          subst hK
          refine ⟨⟨x0, x1, hcx⟩, ?_⟩
          refine HeadAt.take (i := 7) (.tuple #[.agg #[.int .i64 p1, .int .i64 c1], .bool true]) rfl (by kernel_rfl) (.inl ⟨rfl, fun _ _ => by simp [go_sem]⟩) ⟨x0, x1, hcx⟩ ?_
          refine HeadAt.take (i := 8) (.agg #[.int .i64 p1, .int .i64 c1]) rfl (by kernel_rfl) (.inl ⟨rfl, fun _ _ => by simp [go_sem]⟩) ⟨x0, x1, hcx⟩ ?_
          refine HeadAt.take (i := 9) (.bool true) rfl (by kernel_rfl) (.inl ⟨rfl, fun _ _ => by simp [go_sem]⟩) ⟨x0, x1, hcx⟩ ?_
          refine HeadAt.one (i := 10) rfl (by kernel_rfl) ?_
          generalize hK : Upto _ _ = K0
          (try simp only [Act.put, List.getElem_toArray, List.getElem_cons_succ, List.getElem_cons_zero, List.setIfInBounds_toArray, List.set_cons_succ, List.set_cons_zero])
          have hb1 := below_one (w := Y3) (.cells #[.int .i64 0, .int .i64 0] 26)
          have xg := Bx.new Y3 #[.int .i64 0, .int .i64 0] 26
          have lg := x2.lt
          replace hcx := Below.keep hb1 hcx
          go_wp2_with fail
          replace x0 := x0.below hb1; replace x1 := x1.below hb1; replace x2 := x2.below hb1; replace hb := hb.trans (hb1.mono hb.size); clear hb1
          generalize Y3.alloc (.cells #[.int .i64 0, .int .i64 0] 26) = Y4 at *
          generalize Y3.heap.size = g at *
          subst hK
          refine ⟨⟨x0, x1, hcx⟩, ?_⟩
          refine HeadAt.one (i := 11) rfl (by kernel_rfl) ?_
          generalize hK : Upto _ _ = K0
          (try simp only [List.getElem_toArray, List.getElem_cons_succ, List.getElem_cons_zero])
          have g0 := xg.cell 0 rfl; have g1 := xg.cell 1 rfl
          have f0 := xg.free 0; have f1 := xg.free 1
          have hcg : ∀ v1 v2 : Value, ∃ Z, (Y4.setCell ⟨g, 0, none⟩ v1).setCell ⟨g, 1, none⟩ v2 = Z ∧ Bx Z g #[v1, v2] 26 ∧ Bx Z w.heap.size #[.int .i64 (R : Int), .slice an N.length cn, .slice ac C.length cc] 24 ∧ Bx Z (w.heap.size + 1) #[.int .i64 s.p, .int .i64 s.c] 26 ∧ Bx Z (w.heap.size + 1 + 1) #[.int .i64 0, .int .i64 0] 26 ∧ Below w.heap.size w Z ∧ Z.cell? ⟨b, off + k, none⟩ = some (.int .i64 x) := fun v1 v2 =>
            ⟨_, rfl, xg.set2 v1 v2, (x0.other (a := ⟨g, 0, none⟩) (by show w.heap.size ≠ g; omega) v1).other (a := ⟨g, 1, none⟩) (by show w.heap.size ≠ g; omega) v2, (x1.other (a := ⟨g, 0, none⟩) (by show w.heap.size + 1 ≠ g; omega) v1).other (a := ⟨g, 1, none⟩) (by show w.heap.size + 1 ≠ g; omega) v2, (x2.other (a := ⟨g, 0, none⟩) (by show w.heap.size + 1 + 1 ≠ g; omega) v1).other (a := ⟨g, 1, none⟩) (by show w.heap.size + 1 + 1 ≠ g; omega) v2, Below.store (Below.store hb (p := ⟨g, 0, none⟩) (by show w.heap.size ≤ g; omega) v1) (p := ⟨g, 1, none⟩) (by show w.heap.size ≤ g; omega) v2,
              by rw [World.cell?_setCell_other _ _ _ _ (fun e => by injection e with e; omega), World.cell?_setCell_other _ _ _ _ (fun e => by injection e with e; omega)]; exact hcx⟩
          obtain ⟨Z, hZ, xgp, x0p, x1p, x2p, hbp, hcxp⟩ := hcg (.int .i64 p1) (.int .i64 c1)
          clear hcg
          go_wp2_with fail
          subst hK
          refine ⟨⟨x0p, x1p, hcxp⟩, ?_⟩
          clear x0 x1 x2 xg hb hcx hZ g0 g1 f0 f1
          refine HeadAt.done (by kernel_rfl) ?_
          (try simp only [List.drop_succ_cons, List.drop_zero])
          have g0 := xgp.cell 0 rfl; have g1 := xgp.cell 1 rfl
          have d0 := x1p.cell 0 rfl; have d1 := x1p.cell 1 rfl
          have f0 := x1p.free 0; have f1 := x1p.free 1
          go_wp2_with fail
          refine NoPanic.normal ?_
          have hst : ∃ Y, (Z.setCell ⟨w.heap.size + 1, 0, none⟩ (.int .i64 p1)).setCell ⟨w.heap.size + 1, 1, none⟩ (.int .i64 c1) = Y ∧ Bx Y w.heap.size #[.int .i64 (R : Int), .slice an N.length cn, .slice ac C.length cc] 24 ∧ Bx Y (w.heap.size + 1) #[.int .i64 p1, .int .i64 c1] 26 ∧ Bx Y (w.heap.size + 1 + 1) #[.int .i64 0, .int .i64 0] 26 ∧ Below w.heap.size w Y :=
            ⟨_, rfl, (x0p.other (a := ⟨w.heap.size + 1, 0, none⟩) (by show w.heap.size ≠ w.heap.size + 1; omega) _).other (a := ⟨w.heap.size + 1, 1, none⟩) (by show w.heap.size ≠ w.heap.size + 1; omega) _, x1p.set2 _ _, (x2p.other (a := ⟨w.heap.size + 1, 0, none⟩) (by show w.heap.size + 1 + 1 ≠ w.heap.size + 1; omega) _).other (a := ⟨w.heap.size + 1, 1, none⟩) (by show w.heap.size + 1 + 1 ≠ w.heap.size + 1; omega) _, Below.store (Below.store hbp (p := ⟨w.heap.size + 1, 0, none⟩) (by show w.heap.size ≤ w.heap.size + 1; omega) _) (p := ⟨w.heap.size + 1, 1, none⟩) (by show w.heap.size ≤ w.heap.size + 1; omega) _⟩
          obtain ⟨Y, hY, y0, y1, y2, hbY⟩ := hst
          go_wp2_with fail
          clear hY
          go_roundw
          case rel => exact ⟨k + 1, ⟨p1, c1⟩, (m + 1), by omega, by go_num, by go_num, hp1l, by show c1 ≤ _; omega, by omega, by rw [Hn.out, HR.out]; rfl, hbY, y0, y1, y2⟩
          case measure => simp [intOf]; omega
        · skip
          generalize hK : Upto _ _ = K0
          (try simp only [Act.put, List.getElem_toArray, List.getElem_cons_succ, List.getElem_cons_zero, List.setIfInBounds_toArray, List.set_cons_succ, List.set_cons_zero])
          have hb1 := below_one (w := Y0) (.cells #[.int .i64 0, .int .i64 0] 26)
          have xg := Bx.new Y0 #[.int .i64 0, .int .i64 0] 26
          have lg := x2.lt
          replace hcx := Below.keep hb1 hcx
          go_wp2_with fail
          replace x0 := x0.below hb1; replace x1 := x1.below hb1; replace x2 := x2.below hb1; replace hb := hb.trans (hb1.mono hb.size); clear hb1
          generalize Y0.alloc (.cells #[.int .i64 0, .int .i64 0] 26) = Y1 at *
          generalize Y0.heap.size = g at *
          subst hK
          refine ⟨⟨x0, x1, hcx⟩, ?_⟩
          refine HeadAt.one (i := 6) rfl (by kernel_rfl) ?_
          generalize hK : Upto _ _ = K0
          (try simp only [List.getElem_toArray, List.getElem_cons_succ, List.getElem_cons_zero])
          go_wp2_with fail
          refine (ac1 _ (hN0.below hb (Nat.le_refl _)) (hC0.below hb (Nat.le_refl _))).mono ?_
          rintro e Y3 ⟨rfl, hb1⟩
          replace hcx := Below.keep hb1 hcx
          replace x0 := x0.below hb1; replace x1 := x1.below hb1; replace x2 := x2.below hb1; replace xg := xg.below hb1; replace hb := hb.trans (hb1.mono hb.size); clear hb1
          go_wp2_with fail
          subst hK
          refine ⟨⟨x0, x1, hcx⟩, ?_⟩
          refine HeadAt.take (i := 7) (.tuple #[.agg #[.int .i64 p1, .int .i64 c1], .bool true]) rfl (by kernel_rfl) (.inl ⟨rfl, fun _ _ => by simp [go_sem]⟩) ⟨x0, x1, hcx⟩ ?_
          refine HeadAt.take (i := 8) (.agg #[.int .i64 p1, .int .i64 c1]) rfl (by kernel_rfl) (.inl ⟨rfl, fun _ _ => by simp [go_sem]⟩) ⟨x0, x1, hcx⟩ ?_
          refine HeadAt.take (i := 9) (.bool true) rfl (by kernel_rfl) (.inl ⟨rfl, fun _ _ => by simp [go_sem]⟩) ⟨x0, x1, hcx⟩ ?_
          refine HeadAt.one (i := 11) rfl (by kernel_rfl) ?_
          generalize hK : Upto _ _ = K0
          (try simp only [Act.put, List.getElem_toArray, List.getElem_cons_succ, List.getElem_cons_zero, List.setIfInBounds_toArray, List.set_cons_succ, List.set_cons_zero])
          have g0 := xg.cell 0 rfl; have g1 := xg.cell 1 rfl
          have f0 := xg.free 0; have f1 := xg.free 1
          have hcg : ∀ v1 v2 : Value, ∃ Z, (Y3.setCell ⟨g, 0, none⟩ v1).setCell ⟨g, 1, none⟩ v2 = Z ∧ Bx Z g #[v1, v2] 26 ∧ Bx Z w.heap.size #[.int .i64 (R : Int), .slice an N.length cn, .slice ac C.length cc] 24 ∧ Bx Z (w.heap.size + 1) #[.int .i64 s.p, .int .i64 s.c] 26 ∧ Bx Z (w.heap.size + 1 + 1) #[.int .i64 0, .int .i64 0] 26 ∧ Below w.heap.size w Z ∧ Z.cell? ⟨b, off + k, none⟩ = some (.int .i64 x) := fun v1 v2 =>
            ⟨_, rfl, xg.set2 v1 v2, (x0.other (a := ⟨g, 0, none⟩) (by show w.heap.size ≠ g; omega) v1).other (a := ⟨g, 1, none⟩) (by show w.heap.size ≠ g; omega) v2, (x1.other (a := ⟨g, 0, none⟩) (by show w.heap.size + 1 ≠ g; omega) v1).other (a := ⟨g, 1, none⟩) (by show w.heap.size + 1 ≠ g; omega) v2, (x2.other (a := ⟨g, 0, none⟩) (by show w.heap.size + 1 + 1 ≠ g; omega) v1).other (a := ⟨g, 1, none⟩) (by show w.heap.size + 1 + 1 ≠ g; omega) v2, Below.store (Below.store hb (p := ⟨g, 0, none⟩) (by show w.heap.size ≤ g; omega) v1) (p := ⟨g, 1, none⟩) (by show w.heap.size ≤ g; omega) v2,
              by rw [World.cell?_setCell_other _ _ _ _ (fun e => by injection e with e; omega), World.cell?_setCell_other _ _ _ _ (fun e => by injection e with e; omega)]; exact hcx⟩
          obtain ⟨Z, hZ, xgp, x0p, x1p, x2p, hbp, hcxp⟩ := hcg (.int .i64 p1) (.int .i64 c1)
          clear hcg
          go_wp2_with fail
          subst hK
          refine ⟨⟨x0p, x1p, hcxp⟩, ?_⟩
          clear x0 x1 x2 xg hb hcx hZ g0 g1 f0 f1
          refine HeadAt.done (by kernel_rfl) ?_
          (try simp only [List.drop_succ_cons, List.drop_zero])
          have g0 := xgp.cell 0 rfl; have g1 := xgp.cell 1 rfl
          have d0 := x1p.cell 0 rfl; have d1 := x1p.cell 1 rfl
          have f0 := x1p.free 0; have f1 := x1p.free 1
          go_wp2_with fail
          refine NoPanic.normal ?_
          have hst : ∃ Y, (Z.setCell ⟨w.heap.size + 1, 0, none⟩ (.int .i64 p1)).setCell ⟨w.heap.size + 1, 1, none⟩ (.int .i64 c1) = Y ∧ Bx Y w.heap.size #[.int .i64 (R : Int), .slice an N.length cn, .slice ac C.length cc] 24 ∧ Bx Y (w.heap.size + 1) #[.int .i64 p1, .int .i64 c1] 26 ∧ Bx Y (w.heap.size + 1 + 1) #[.int .i64 0, .int .i64 0] 26 ∧ Below w.heap.size w Y :=
            ⟨_, rfl, (x0p.other (a := ⟨w.heap.size + 1, 0, none⟩) (by show w.heap.size ≠ w.heap.size + 1; omega) _).other (a := ⟨w.heap.size + 1, 1, none⟩) (by show w.heap.size ≠ w.heap.size + 1; omega) _, x1p.set2 _ _, (x2p.other (a := ⟨w.heap.size + 1, 0, none⟩) (by show w.heap.size + 1 + 1 ≠ w.heap.size + 1; omega) _).other (a := ⟨w.heap.size + 1, 1, none⟩) (by show w.heap.size + 1 + 1 ≠ w.heap.size + 1; omega) _, Below.store (Below.store hbp (p := ⟨w.heap.size + 1, 0, none⟩) (by show w.heap.size ≤ w.heap.size + 1; omega) _) (p := ⟨w.heap.size + 1, 1, none⟩) (by show w.heap.size ≤ w.heap.size + 1; omega) _⟩
          obtain ⟨Y, hY, y0, y1, y2, hbY⟩ := hst
          go_wp2_with fail
          clear hY
          go_roundw
          case rel => exact ⟨k + 1, ⟨p1, c1⟩, (m + 1), by omega, by go_num, by go_num, hp1l, by show c1 ≤ _; omega, by omega, by rw [Hn.out, HR.out]; rfl, hbY, y0, y1, y2⟩
          case measure => simp [intOf]; omega
    · have d0 := x1.cell 0 rfl; have d1 := x1.cell 1 rfl
      have g0 := x2.cell 0 rfl; have g1 := x2.cell 1 rfl
      have h0 := x2.free 0; have h1 := x2.free 1
      go_wp2
      refine bodyPost_ret (v := .tuple #[.agg #[.int .i64 (runL R N C ⟨p, c⟩ 0 xs).1.p, .int .i64 (runL R N C ⟨p, c⟩ 0 xs).1.c], .int .i64 (runL R N C ⟨p, c⟩ 0 xs).2, .int .i64 0]) ?_ rfl ⟨rfl, ?_⟩
      · rw [Hn.out, drop_end hk' hlt]
        simp [results, Try.results22, go_sem, g0, g1, runL]
      · exact (hb.setCell (by simp; omega) _).setCell (by simp; omega) _
end Go.Proofs.Ytmkmnedojgigoaa
