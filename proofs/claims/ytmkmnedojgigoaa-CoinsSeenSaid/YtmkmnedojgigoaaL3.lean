import Derived.Test.YtmkmnedojgigoaaL2
namespace Go.Proofs.Ytmkmnedojgigoaa
open Go.RowKit

structure SeenF (R : Nat) (p q : Nat) (S : List (Int × Int)) (B D : List Int) : Prop where
  b1 : B.length ≤ 200
  d1 : D.length = B.length
  hp : inB B p = true
  hq : inB D q = true
  s1 : S.length ≤ 7
  b0 : S.length = 0 → B.length = R

set_option maxRecDepth 100000 in
set_option maxHeartbeats 1000000 in
theorem seen_ok (R : Nat) (an ac : Option Addr) (cn cc : Nat) (N C : List Int) (p : Nat) (a : Option Addr) (ca : Nat) (ks : List Int) (w : World) (hN : Ints w an N) (hC : Ints w ac C) (hX : Ints w a ks) (hw : isWhl (R : Int) N C = true) (hv : Vw R N C) (hp : p < R) (hl : ks.length ≤ 7) (hk : kindsB C 0 ks = true) :
    Calls Try.prog 14 #[.agg #[.int .i64 (R : Int), .slice an N.length cn, .slice ac C.length cc], .int .i64 p, .slice a ks.length ca] w (WorksP w) := by
  obtain ⟨j0, hj, jz0, jz1, jz2⟩ := info_parts info50
  have hN0 := hN; have hC0 := hC; have hX0 := hX
  have d1 : decide ((7 : Int) < (ks.length : Int)) = false := by simp; omega
  have hpB : inR 0 (p : Int) ((R : Int) - 1) = true := inR_iff.2 (by omega)
  obtain ⟨W, hW, hb, hs, x0⟩ := boxes1 w #[.int .i64 (R : Int), .slice an N.length cn, .slice ac C.length cc] 24
  clear hs hN hC hX
  have c0 := x0.cell 0 rfl; have c1 := x0.cell 1 rfl; have c2 := x0.cell 2 rfl
  go_enter Try.func14, Try.ntmps14
  go_wp2_with fail
  refine (isWheel_any _ _ _ _ _ _ _ _ (hN0.below hb (Nat.le_refl _)) (hC0.below hb (Nat.le_refl _))).mono ?_
  rintro e W1 ⟨rfl, hb1⟩
  rw [hw]
  clear hW
  (try clear c0 c1 c2); replace x0 := x0.below hb1; have c0 := x0.cell 0 rfl; have c1 := x0.cell 1 rfl; have c2 := x0.cell 2 rfl; replace hb := hb.trans (hb1.mono hb.size); clear hb1
  go_wp2_with fail
  refine (rIsPlace_any _ _ _ _ _ _ _ p _ hv).mono ?_
  rintro e W2 ⟨rfl, hb1⟩
  rw [hpB]
  (try clear c0 c1 c2); replace x0 := x0.below hb1; have c0 := x0.cell 0 rfl; have c1 := x0.cell 1 rfl; have c2 := x0.cell 2 rfl; replace hb := hb.trans (hb1.mono hb.size); clear hb1
  go_wp2_with fail
  refine (areKinds_any _ _ _ _ _ _ _ a ca ks 0 _ (hC0.below hb (Nat.le_refl _)) (hX0.below hb (Nat.le_refl _))).mono ?_
  rintro e W3 ⟨rfl, hb1⟩
  rw [hk]
  (try clear c0 c1 c2); replace x0 := x0.below hb1; have c0 := x0.cell 0 rfl; have c1 := x0.cell 1 rfl; have c2 := x0.cell 2 rfl; replace hb := hb.trans (hb1.mono hb.size); clear hb1
  obtain ⟨hkk, -⟩ := kinds_of hk
  go_wp2_with fail
  refine (what_any _ _ _ _ _ _ _ p a ca ks _ (hN0.below hb (Nat.le_refl _)) (hC0.below hb (Nat.le_refl _)) (hX0.below hb (Nat.le_refl _)) hv hp hkk (by omega)).mono ?_
  rintro e W4 ⟨hb1, aS, cS, rfl, hS, hcap, -⟩
  clear c0 c1 c2
  replace x0 := x0.below hb1; replace hb := hb.trans (hb1.mono hb.size); clear hb1
  have hok : (decide ((whatS R N C p ks).length ≤ 20) && (whatS R N C p ks).all (isSeenB C)) = true := by
    rw [seen_what hv ks p hkk, whatS_len]; simp; omega
  have hok2 : ∀ k, (decide (((whatS R N C p ks).take k).length ≤ 20) && ((whatS R N C p ks).take k).all (isSeenB C)) = true := fun k => by
    have h1 := seen_what hv ks p hkk
    have h2 : ((whatS R N C p ks).take k).length ≤ 20 := by rw [List.length_take, whatS_len]; omega
    rw [Bool.and_eq_true, decide_eq_true_eq]
    exact ⟨h2, List.all_eq_true.2 fun x hx => List.all_eq_true.1 h1 x (List.mem_of_mem_take hx)⟩
  have hpm : (p : Int) ∈ bef R N C (whatS R N C p ks) R := (bef_iff R N C _ _ R).2 ⟨p, hp, rfl, gave_what R N C ks p⟩
  have hpm2 : ∀ k, (p : Int) ∈ bef R N C ((whatS R N C p ks).take k) R := fun k => bef_pre hpm
  have xD := x0; clear x0
  have F : SeenF R p ((p + tot C ks) % R) (whatS R N C p ks) (bef R N C (whatS R N C p ks) R) (srt (bhd R (totS C (whatS R N C p ks)) (bef R N C (whatS R N C p ks) R))) := by
    refine ⟨?_, by rw [srt_len, bhd_len], inB_iff.2 hpm, inB_iff.2 ((srt_mem _ _).2 ?_), by rw [whatS_len]; exact hl, fun h0 => ?_⟩
    · have := bef_len R N C (whatS R N C p ks) R; have := hv.r2; omega
    · rw [totS_what]; exact bhd_has hpm
    · rw [List.eq_nil_of_length_eq_zero h0]; exact bef_all R N C R
  have cou : ∀ (a' : Option Addr) (ca' : Nat) (W : World), Ints W an N → Ints W ac C → Prs W a' (whatS R N C p ks) → Calls Try.prog 39 #[.agg #[.int .i64 (R : Int), .slice an N.length cn, .slice ac C.length cc], .slice a' (whatS R N C p ks).length ca'] W (RowPost2 (bef R N C (whatS R N C p ks) R) W) := fun a' ca' W h1 h2 h3 =>
    Could_ok R an ac cn cc N C a' ca' _ W h1 h2 h3 hv hok (fun h => by rw [h] at hpm; simp at hpm)
  have nw : ∀ (a' : Option Addr) (ca' : Nat) (W : World), Ints W an N → Ints W ac C → Prs W a' (whatS R N C p ks) → Calls Try.prog 41 #[.agg #[.int .i64 (R : Int), .slice an N.length cn, .slice ac C.length cc], .slice a' (whatS R N C p ks).length ca'] W (RowPost2 (srt (bhd R (totS C (whatS R N C p ks)) (bef R N C (whatS R N C p ks) R))) W) := fun a' ca' W h1 h2 h3 =>
    Now_ok R an ac cn cc N C a' ca' _ W h1 h2 h3 hv hok (fun h => by rw [h] at hpm; simp at hpm)
  have cou2 : ∀ (k : Nat) (a' : Option Addr) (ca' : Nat) (W : World), Ints W an N → Ints W ac C → Prs W a' ((whatS R N C p ks).take k) → Calls Try.prog 39 #[.agg #[.int .i64 (R : Int), .slice an N.length cn, .slice ac C.length cc], .slice a' ((whatS R N C p ks).take k).length ca'] W (RowPost2 (bef R N C ((whatS R N C p ks).take k) R) W) := fun k a' ca' W h1 h2 h3 =>
    Could_ok R an ac cn cc N C a' ca' _ W h1 h2 h3 hv (hok2 k) (fun h => by have := hpm2 k; rw [h] at this; simp at this)
  have sub : ∀ k, ∀ x ∈ bef R N C (whatS R N C p ks) R, inB (bef R N C ((whatS R N C p ks).take k) R) x = true := fun k x hx => inB_iff.2 (bef_pre hx)
  have len2 : ∀ k, (bef R N C ((whatS R N C p ks).take k) R).length ≤ 200 := fun k => by
    have := bef_len R N C ((whatS R N C p ks).take k) R; have := hv.r2; omega
  have hSk : (whatS R N C p ks).length = ks.length := whatS_len R N C ks p
  generalize bef R N C (whatS R N C p ks) R = B at *
  generalize srt (bhd R (totS C (whatS R N C p ks)) B) = D at *
  generalize (p + tot C ks) % R = q at *
  clear hok hok2 hpm hpm2 hkk hw hv hk hpB
  generalize whatS R N C p ks = S at *
  obtain ⟨b1, hd1, hpB, hqB, s1, b0⟩ := F
  have HD := hid hd1; have HK := hid hSk; have HP := hid hpB; have HQ := hid hqB; have B0 := hid b0
  clear hd1 hSk hpB hqB b0
  have e1 : decide ((200 : Int) < (B.length : Int)) = false := by simp; omega
  have e2 : decide ((200 : Int) < (D.length : Int)) = false := by have := HD.out; simp; omega
  have e3 : decide ((B.length : Int) < (D.length : Int)) = false := by have := HD.out; simp; omega
  have e4 : decide (B.length < D.length) = false := by have := HD.out; simp; omega
  go_wp2_with fail
  replace xD := xD.drew; replace hb := hb.drew
  replace hS := hS.below (Below.refl _ _).drew (Nat.le_refl _)
  refine wp_region_head 9 (fun w' => Bx w' w.heap.size #[.int .i64 (R : Int), .slice an N.length cn, .slice ac C.length cc] 24) (by kernel_rfl) rfl ?_
  generalize World.drew _ = Y0 at *
  refine HeadAt.take (i := 0) (.agg #[.int .i64 (R : Int), .slice an N.length cn, .slice ac C.length cc]) rfl (by kernel_rfl) (.inl ⟨rfl, fun w' z => ?_⟩) xD ?_
  · (have z0 := z.cell 0 rfl; have z1 := z.cell 1 rfl; have z2 := z.cell 2 rfl; simp [go_sem, z0, z1, z2])
  refine HeadAt.take (i := 2) (.slice aS S.length cS) rfl (by kernel_rfl) (.inl ⟨rfl, fun _ _ => by simp [go_sem]⟩) xD ?_
  refine HeadAt.one (i := 1) rfl (by kernel_rfl) ?_
  generalize hK : Upto _ _ = K0
  (try simp only [Act.put, List.getElem_toArray, List.getElem_cons_succ, List.getElem_cons_zero, List.setIfInBounds_toArray, List.set_cons_succ, List.set_cons_zero])
  have xD1 := xD.alloc (.cells #[] 50)
  have hA := own_lit0 Y0 50 2
  have hb1 := below_one (w := Y0) (.cells #[] 50)
  go_wp2_with fail
  subst hK
  refine ⟨xD1, ?_⟩
  refine HeadAt.one (i := 3) rfl (by kernel_rfl) ?_
  generalize hK : Upto _ _ = K0
  (try simp only [List.getElem_toArray, List.getElem_cons_succ, List.getElem_cons_zero])
  have hcl := (hS.below hb1 (Nat.le_refl _)).cls
  go_wp2_with (at_builtin; refine wpList_app rfl (.tmp 46) (.tmp 47) 47 rfl Y0.heap.size 50 j0 (.agg #[.int .i64 0, .int .i64 0]) 2 16 under47 hj jz0 jz1 jz2 rfl (by decide) _ 0 [] rfl hA aS S.length cS _ rfl (pcells_len S) hcl (pcells_one _) (by unfold maxLen; omega) (by omega) (by simp) ?_; intro v1 Y2 hown' hg)
  subst hK
  have hbY := hb1.grown hg (by simp) (own_ge2 hA)
  clear xD1 hA hcl hg hb1
  obtain ⟨a2, ca2, rfl, hi⟩ := Prs.of_own (w := Y2) (xs := S) (by simpa using hown') hS.1 hS.2.1
  replace hS := hS.below hbY (Nat.le_refl _); replace xD := xD.below hbY; replace hb := hb.trans (hbY.mono hb.size); clear hbY
  clear hown'
  refine ⟨xD, ?_⟩
  refine HeadAt.one (i := 4) rfl (by kernel_rfl) ?_
  generalize hK : Upto _ _ = K0
  (try simp only [List.getElem_toArray, List.getElem_cons_succ, List.getElem_cons_zero])
  go_wp2_with fail
  refine (cou _ _ _ (hN0.below hb (Nat.le_refl _)) (hC0.below hb (Nat.le_refl _)) hi).mono ?_
  rintro e Y3 ⟨hb1, aB, caB, rfl, hB, -⟩
  replace hS := hS.below hb1 (Nat.le_refl _); replace xD := xD.below hb1; replace hb := hb.trans (hb1.mono hb.size); clear hb1
  clear hi
  go_wp2_with fail
  subst hK
  refine ⟨xD, ?_⟩
  refine HeadAt.take (i := 5) (.tuple #[.slice aB B.length caB, .int .i64 0]) rfl (by kernel_rfl) (.inl ⟨rfl, fun _ _ => by simp [go_sem]⟩) xD ?_
  refine HeadAt.take (i := 6) (.slice aB B.length caB) rfl (by kernel_rfl) (.inl ⟨rfl, fun _ _ => by simp [go_sem]⟩) xD ?_
  refine HeadAt.take (i := 7) (.int .i64 0) rfl (by kernel_rfl) (.inl ⟨rfl, fun _ _ => by simp [go_sem]⟩) xD ?_
  refine HeadAt.take (i := 8) (.slice aB B.length caB) rfl (by kernel_rfl) (.inl ⟨rfl, fun _ _ => by simp [go_sem]⟩) xD ?_
  refine HeadAt.done (by kernel_rfl) ?_
  (try simp only [Act.put, List.drop_succ_cons, List.drop_zero, List.getElem_toArray, List.getElem_cons_succ, List.getElem_cons_zero])
  go_wp2_with fail
  refine NoPanic.normal ?_
  go_wp2_with fail
  replace xD := xD.drew; replace hb := hb.drew
  replace hS := hS.below (Below.refl _ _).drew (Nat.le_refl _)
  replace hB := hB.below (Below.refl _ _).drew (Nat.le_refl _)
  refine wp_region_head 9 (fun w' => Bx w' w.heap.size #[.int .i64 (R : Int), .slice an N.length cn, .slice ac C.length cc] 24) (by kernel_rfl) rfl ?_
  generalize World.drew _ = Y0 at *
  refine HeadAt.take (i := 0) (.agg #[.int .i64 (R : Int), .slice an N.length cn, .slice ac C.length cc]) rfl (by kernel_rfl) (.inl ⟨rfl, fun w' z => ?_⟩) xD ?_
  · (have z0 := z.cell 0 rfl; have z1 := z.cell 1 rfl; have z2 := z.cell 2 rfl; simp [go_sem, z0, z1, z2])
  refine HeadAt.take (i := 2) (.slice aS S.length cS) rfl (by kernel_rfl) (.inl ⟨rfl, fun _ _ => by simp [go_sem]⟩) xD ?_
  refine HeadAt.one (i := 1) rfl (by kernel_rfl) ?_
  generalize hK : Upto _ _ = K0
  (try simp only [Act.put, List.getElem_toArray, List.getElem_cons_succ, List.getElem_cons_zero, List.setIfInBounds_toArray, List.set_cons_succ, List.set_cons_zero])
  have xD1 := xD.alloc (.cells #[] 50)
  have hA := own_lit0 Y0 50 2
  have hb1 := below_one (w := Y0) (.cells #[] 50)
  go_wp2_with fail
  subst hK
  refine ⟨xD1, ?_⟩
  refine HeadAt.one (i := 3) rfl (by kernel_rfl) ?_
  generalize hK : Upto _ _ = K0
  (try simp only [List.getElem_toArray, List.getElem_cons_succ, List.getElem_cons_zero])
  have hcl := (hS.below hb1 (Nat.le_refl _)).cls
  go_wp2_with (at_builtin; refine wpList_app rfl (.tmp 54) (.tmp 55) 47 rfl Y0.heap.size 50 j0 (.agg #[.int .i64 0, .int .i64 0]) 2 16 under47 hj jz0 jz1 jz2 rfl (by decide) _ 0 [] rfl hA aS S.length cS _ rfl (pcells_len S) hcl (pcells_one _) (by unfold maxLen; omega) (by omega) (by simp) ?_; intro v1 Y2 hown' hg)
  subst hK
  have hbY := hb1.grown hg (by simp) (own_ge2 hA)
  clear xD1 hA hcl hg hb1
  obtain ⟨a2, ca2, rfl, hi⟩ := Prs.of_own (w := Y2) (xs := S) (by simpa using hown') hS.1 hS.2.1
  replace hS := hS.below hbY (Nat.le_refl _); replace hB := hB.below hbY (Nat.le_refl _); replace xD := xD.below hbY; replace hb := hb.trans (hbY.mono hb.size); clear hbY
  clear hown'
  refine ⟨xD, ?_⟩
  refine HeadAt.one (i := 4) rfl (by kernel_rfl) ?_
  generalize hK : Upto _ _ = K0
  (try simp only [List.getElem_toArray, List.getElem_cons_succ, List.getElem_cons_zero])
  go_wp2_with fail
  refine (nw _ _ _ (hN0.below hb (Nat.le_refl _)) (hC0.below hb (Nat.le_refl _)) hi).mono ?_
  rintro e Y3 ⟨hb1, aD, caD, rfl, hD, -⟩
  replace hS := hS.below hb1 (Nat.le_refl _); replace hB := hB.below hb1 (Nat.le_refl _); replace xD := xD.below hb1; replace hb := hb.trans (hb1.mono hb.size); clear hb1
  clear hi
  go_wp2_with fail
  subst hK
  refine ⟨xD, ?_⟩
  refine HeadAt.take (i := 5) (.tuple #[.slice aD D.length caD, .int .i64 0]) rfl (by kernel_rfl) (.inl ⟨rfl, fun _ _ => by simp [go_sem]⟩) xD ?_
  refine HeadAt.take (i := 6) (.slice aD D.length caD) rfl (by kernel_rfl) (.inl ⟨rfl, fun _ _ => by simp [go_sem]⟩) xD ?_
  refine HeadAt.take (i := 7) (.int .i64 0) rfl (by kernel_rfl) (.inl ⟨rfl, fun _ _ => by simp [go_sem]⟩) xD ?_
  refine HeadAt.take (i := 8) (.slice aD D.length caD) rfl (by kernel_rfl) (.inl ⟨rfl, fun _ _ => by simp [go_sem]⟩) xD ?_
  refine HeadAt.done (by kernel_rfl) ?_
  (try simp only [Act.put, List.drop_succ_cons, List.drop_zero, List.getElem_toArray, List.getElem_cons_succ, List.getElem_cons_zero])
  go_wp2_with fail
  refine NoPanic.normal ?_
  go_wp2_with fail
  clear cou nw
  go_wp2_with fail
  refine (in_any _ _ _ _ _ hB).mono ?_
  rintro e w' ⟨rfl, rfl⟩
  rw [HP.out]
  go_wp2_with fail
  refine (in_any _ _ _ _ _ hD).mono ?_
  rintro e w' ⟨rfl, rfl⟩
  rw [HQ.out]
  by_cases h0 : ks.length = 0
  · have z1 : ((ks.length : Int) == 0) = true := by simp [h0]
    have z2 : ((B.length : Int) == (R : Int)) = true := by
      have := B0.out (by have := HK.out; omega)
      simp [this]
    clear h0
    have c0 := xD.cell 0 rfl; have c1 := xD.cell 1 rfl; have c2 := xD.cell 2 rfl
    go_wp2_with fail
    refine (works_any _).mono ?_
    rintro e V3 ⟨rfl, hb1⟩
    replace hb := hb.trans (hb1.mono hb.size)
    clear hb1 c0 c1 c2 xD
    go_wp2
    go_ret
    exact ⟨rfl, hb⟩
  · have z1 : ((ks.length : Int) == 0) = false := by rw [beq_eq_false_iff_ne]; omega
    obtain ⟨m, hm⟩ : ∃ m, m = S.length - 1 := ⟨_, rfl⟩
    have hml : (S.take m).length = m := by rw [List.length_take]; omega
    have m1 : ((S.length : Int) - 1).toNat = m := by have := HK.out; omega
    have m2 : (0 : Int) ≤ (S.length : Int) - 1 := by have := HK.out; omega
    have m3 : (S.length : Int) - 1 ≤ (cS : Int) := by omega
    have m5 : (1 : Int) ≤ (S.length : Int) := by have := HK.out; omega
    have m6 : ¬ (S.length : Int) < 1 := by omega
    have m4 : IntKind.i64.wrap ((S.length : Int) - 1) = (S.length : Int) - 1 := IntWalk.i64_in _ (by omega)
    have c2m := cou2 m
    rw [hml] at c2m
    have s2m := sub m
    have l2m := len2 m
    have hS2 := hS.take m
    generalize bef R N C (S.take m) R = B' at *
    have mS : m ≤ 7 := by omega
    have M1 := hid m1; have M4 := hid m4; have HML := hid hml
    clear h0 hm hml m1 cou2 sub len2 m4
    have e5 : decide ((200 : Int) < (B'.length : Int)) = false := by simp; omega
    go_wp2_with fail
    replace xD := xD.drew; replace hb := hb.drew
    replace hS2 := hS2.below (Below.refl _ _).drew (Nat.le_refl _)
    replace hB := hB.below (Below.refl _ _).drew (Nat.le_refl _)
    refine wp_region_head 13 (fun w' => Bx w' w.heap.size #[.int .i64 (R : Int), .slice an N.length cn, .slice ac C.length cc] 24) (by kernel_rfl) rfl ?_
    generalize World.drew _ = Y0 at *
    refine HeadAt.take (i := 0) (.agg #[.int .i64 (R : Int), .slice an N.length cn, .slice ac C.length cc]) rfl (by kernel_rfl) (.inl ⟨rfl, fun w' z => ?_⟩) xD ?_
    · (have z0 := z.cell 0 rfl; have z1 := z.cell 1 rfl; have z2 := z.cell 2 rfl; simp [go_sem, z0, z1, z2])
    refine HeadAt.take (i := 2) (.slice aS S.length cS) rfl (by kernel_rfl) (.inl ⟨rfl, fun _ _ => by simp [go_sem]⟩) xD ?_
    refine HeadAt.take (i := 3) (.slice aS S.length cS) rfl (by kernel_rfl) (.inl ⟨rfl, fun _ _ => by simp [go_sem]⟩) xD ?_
    refine HeadAt.take (i := 4) (.int .i64 S.length) rfl (by kernel_rfl) (.inl ⟨rfl, fun _ _ => by simp [go_sem]⟩) xD ?_
    refine HeadAt.take (i := 5) (.int .i64 ((S.length : Int) - 1)) rfl (by kernel_rfl) (.inl ⟨rfl, fun w' z => ?_⟩) xD ?_
    · simp [go_sem, M4.out]
    refine HeadAt.take (i := 6) (.slice aS m cS) rfl (by kernel_rfl) (.inl ⟨rfl, fun w' z => ?_⟩) xD ?_
    · simp [go_sem, m3, m6, M1.out]
    refine HeadAt.one (i := 1) rfl (by kernel_rfl) ?_
    generalize hK : Upto _ _ = K0
    (try simp only [Act.put, List.getElem_toArray, List.getElem_cons_succ, List.getElem_cons_zero, List.setIfInBounds_toArray, List.set_cons_succ, List.set_cons_zero])
    have xD1 := xD.alloc (.cells #[] 50)
    have hA := own_lit0 Y0 50 2
    have hb1 := below_one (w := Y0) (.cells #[] 50)
    go_wp2_with fail
    subst hK
    refine ⟨xD1, ?_⟩
    refine HeadAt.one (i := 7) rfl (by kernel_rfl) ?_
    generalize hK : Upto _ _ = K0
    (try simp only [List.getElem_toArray, List.getElem_cons_succ, List.getElem_cons_zero])
    have hcl := (hS2.below hb1 (Nat.le_refl _)).cls
    go_wp2_with (at_builtin; refine wpList_app rfl (.tmp 108) (.tmp 113) 47 rfl Y0.heap.size 50 j0 (.agg #[.int .i64 0, .int .i64 0]) 2 16 under47 hj jz0 jz1 jz2 rfl (by decide) _ 0 [] rfl hA aS m cS _ rfl (by rw [pcells_len, HML.out]) hcl (pcells_one _) (by unfold maxLen; omega) (by omega) (by simp) ?_; intro v1 Y2 hown' hg)
    subst hK
    have hbY := hb1.grown hg (by simp) (own_ge2 hA)
    clear xD1 hA hcl hg hb1
    obtain ⟨a2, ca2, rfl, hi⟩ := Prs.of_own (w := Y2) (xs := (S.take m)) (by simpa [HML.out] using hown') hS2.1 hS2.2.1
    replace hS2 := hS2.below hbY (Nat.le_refl _); replace hB := hB.below hbY (Nat.le_refl _); replace xD := xD.below hbY; replace hb := hb.trans (hbY.mono hb.size); clear hbY
    clear hown'
    refine ⟨xD, ?_⟩
    refine HeadAt.one (i := 8) rfl (by kernel_rfl) ?_
    generalize hK : Upto _ _ = K0
    (try simp only [List.getElem_toArray, List.getElem_cons_succ, List.getElem_cons_zero])
    rw [HML.out]
    go_wp2_with fail
    refine (c2m _ _ _ (hN0.below hb (Nat.le_refl _)) (hC0.below hb (Nat.le_refl _)) hi).mono ?_
    rintro e Y3 ⟨hb1, aB2, caB2, rfl, hB2, -⟩
    replace hS2 := hS2.below hb1 (Nat.le_refl _); replace hB := hB.below hb1 (Nat.le_refl _); replace xD := xD.below hb1; replace hb := hb.trans (hb1.mono hb.size); clear hb1
    clear hi
    go_wp2_with fail
    subst hK
    refine ⟨xD, ?_⟩
    refine HeadAt.take (i := 9) (.tuple #[.slice aB2 B'.length caB2, .int .i64 0]) rfl (by kernel_rfl) (.inl ⟨rfl, fun _ _ => by simp [go_sem]⟩) xD ?_
    refine HeadAt.take (i := 10) (.slice aB2 B'.length caB2) rfl (by kernel_rfl) (.inl ⟨rfl, fun _ _ => by simp [go_sem]⟩) xD ?_
    refine HeadAt.take (i := 11) (.int .i64 0) rfl (by kernel_rfl) (.inl ⟨rfl, fun _ _ => by simp [go_sem]⟩) xD ?_
    refine HeadAt.take (i := 12) (.slice aB2 B'.length caB2) rfl (by kernel_rfl) (.inl ⟨rfl, fun _ _ => by simp [go_sem]⟩) xD ?_
    refine HeadAt.done (by kernel_rfl) ?_
    (try simp only [Act.put, List.drop_succ_cons, List.drop_zero, List.getElem_toArray, List.getElem_cons_succ, List.getElem_cons_zero])
    go_wp2_with fail
    refine NoPanic.normal ?_
    go_wp2_with fail
    go_wp2_with fail
    go_loop [15] (fun i => ∃ k : Nat, k ≤ B.length ∧ i = .int .i64 k) (fun i => B.length - (intOf i).toNat)
    case atStart => exact ⟨0, Nat.zero_le _, rfl⟩
    case round =>
      obtain ⟨k, hk', rfl⟩ := hrel
      by_cases hlt : k < B.length
      · obtain ⟨bb, off, x, rfl, hbs, hc, _, _, hx, _⟩ := hB.at hlt
        have hin := hid (s2m x (List.mem_of_getElem? hx.out))
        clear hx
        go_wp2_with fail
        refine (in_any _ _ _ _ _ hB2).mono ?_
        rintro e w' ⟨rfl, rfl⟩
        rw [hin.out]
        go_wp2_with fail
        go_round
        case rel => exact ⟨k + 1, by omega, by go_num⟩
        case measure => simp [intOf]; omega
      · go_wp2_with fail
        refine (works_any _).mono ?_
        rintro e V3 ⟨rfl, hb1⟩
        replace hb := hb.trans (hb1.mono hb.size)
        clear hb1 xD
        go_wp2
        go_ret
        exact ⟨rfl, hb⟩
end Go.Proofs.Ytmkmnedojgigoaa
