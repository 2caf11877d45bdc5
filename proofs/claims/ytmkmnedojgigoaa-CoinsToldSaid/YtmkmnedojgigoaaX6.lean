/- CoinsTold of the commit named in COMMIT returns true: for every wheel and every place, in every world that holds them, and it leaves them as they were. No condition is added to the given statement. -/
import Derived.Test.YtmkmnedojgigoaaX5
import Derived.Test.YtmkmnedojgigoaaO3
import Derived.Test.YtmkmnedojgigoaaK4
namespace Go.Proofs.Ytmkmnedojgigoaa
open Go.RowKit

theorem gave_eq (R : Nat) (N C : List Int) : ∀ (ks : List Int) (q p : Nat), gaveB R N C q (whatS R N C p ks) = true → whatS R N C q ks = whatS R N C p ks
  | [], _, _, _ => rfl
  | k :: ks, q, p, h => by
    rw [whatS, gaveB] at h
    by_cases e : ((gv R N q (cw C k.toNat) : Nat) : Int) = ((gv R N p (cw C k.toNat) : Nat) : Int)
    · rw [if_pos e] at h
      rw [whatS, whatS, gave_eq R N C ks _ _ h, e]
    · rw [if_neg e] at h
      cases h
theorem only_one {l : List Int} {p : Int} (h1 : l.Pairwise (fun a b => a < b)) (h2 : ∀ x, x ∈ l ↔ x = p) : l = [p] := by
  match l, h1, h2 with
  | [], _, h2 => exact absurd ((h2 p).2 rfl) (by simp)
  | [a], _, h2 => rw [(h2 a).1 (by simp)]
  | a :: b :: t, h1, h2 =>
    have ha := (h2 a).1 (by simp)
    have hb := (h2 b).1 (by simp)
    have := (List.pairwise_cons.1 h1).1 b (by simp)
    omega
theorem told_bef {R : Nat} {N C ks : List Int} {p : Nat} (ht : TellsB R N C ks) (hp : p < R) : bef R N C (whatS R N C p ks) R = [(p : Int)] := by
  refine only_one (bef_lt R N C _ R) fun x => ?_
  rw [bef_iff]
  constructor
  · rintro ⟨q, hq, rfl, hg⟩
    have := ht q p hq hp (by unfold plB; rw [gave_eq R N C ks q p hg])
    omega
  · rintro rfl
    exact ⟨p, hp, rfl, gave_what R N C ks p⟩
theorem told_now {R : Nat} {N C ks : List Int} {p : Nat} (hv : Vw R N C) (ht : TellsB R N C ks) (hp : p < R) (hk : ks.all (isKindB C) = true) (hl : ks.length ≤ 4) :
    cldE (R : Int) N C (whatS R N C p ks) = 0 ∧ nowV (R : Int) N C (whatS R N C p ks) = [(((p + tot C ks) % R : Nat) : Int)] := by
  have hs : seenOk C (whatS R N C p ks) = true := by
    rw [seenOk_iff, seen_what hv ks p hk, whatS_len]; simp; omega
  unfold cldE nowV
  rw [hv.valid, hs, Int.toNat_natCast, told_bef ht hp, totS_what]
  refine ⟨by simp, ?_⟩
  simp [srt, bhd]

set_option maxRecDepth 100000 in
set_option maxHeartbeats 1000000 in
theorem td_arg0 (r : Int) (an ac : Option Addr) (cn cc : Nat) (N C : List Int) (p : Int) (w : World) (hN : Ints w an N) (hC : Ints w ac C) (hw : isWhl r N C = false) :
    Calls Try.prog 15 #[.agg #[.int .i64 r, .slice an N.length cn, .slice ac C.length cc], .int .i64 p] w (WorksP w) := by
  obtain ⟨W, hW, hb, hs, x0⟩ := boxes1 w #[.int .i64 r, .slice an N.length cn, .slice ac C.length cc] 24
  clear hs
  have hN0 := hN; have hC0 := hC
  clear hN hC
  have c0 := x0.cell 0 rfl; have c1 := x0.cell 1 rfl; have c2 := x0.cell 2 rfl
  go_enter Try.func15, Try.ntmps15
  go_wp2_with fail
  refine (isWheel_any _ _ _ _ _ _ _ _ (hN0.below hb (Nat.le_refl _)) (hC0.below hb (Nat.le_refl _))).mono ?_
  rintro e W2 ⟨rfl, hb1⟩
  rw [hw]
  clear hW
  (try clear c0 c1 c2); replace x0 := x0.below hb1; have c0 := x0.cell 0 rfl; have c1 := x0.cell 1 rfl; have c2 := x0.cell 2 rfl; replace hb := hb.trans (hb1.mono hb.size); clear hb1
  go_wp2_with fail
  refine (works_any _).mono ?_
  rintro e V3 ⟨rfl, hb1⟩
  replace hb := hb.trans (hb1.mono hb.size)
  clear hb1 x0 c0 c1 c2
  go_wp2
  go_ret
  exact ⟨rfl, hb⟩
set_option maxRecDepth 100000 in
set_option maxHeartbeats 1000000 in
theorem td_arg1 (R : Nat) (an ac : Option Addr) (cn cc : Nat) (N C : List Int) (p : Int) (w : World) (hN : Ints w an N) (hC : Ints w ac C) (hw : isWhl (R : Int) N C = true) (h6 : 60 < (R : Int)) :
    Calls Try.prog 15 #[.agg #[.int .i64 (R : Int), .slice an N.length cn, .slice ac C.length cc], .int .i64 p] w (WorksP w) := by
  obtain ⟨W, hW, hb, hs, x0⟩ := boxes1 w #[.int .i64 (R : Int), .slice an N.length cn, .slice ac C.length cc] 24
  clear hs
  have hN0 := hN; have hC0 := hC
  clear hN hC
  have c0 := x0.cell 0 rfl; have c1 := x0.cell 1 rfl; have c2 := x0.cell 2 rfl
  go_enter Try.func15, Try.ntmps15
  go_wp2_with fail
  refine (isWheel_any _ _ _ _ _ _ _ _ (hN0.below hb (Nat.le_refl _)) (hC0.below hb (Nat.le_refl _))).mono ?_
  rintro e W2 ⟨rfl, hb1⟩
  rw [hw]
  clear hW
  (try clear c0 c1 c2); replace x0 := x0.below hb1; have c0 := x0.cell 0 rfl; have c1 := x0.cell 1 rfl; have c2 := x0.cell 2 rfl; replace hb := hb.trans (hb1.mono hb.size); clear hb1
  go_wp2_with fail
  refine (works_any _).mono ?_
  rintro e V3 ⟨rfl, hb1⟩
  replace hb := hb.trans (hb1.mono hb.size)
  clear hb1 x0 c0 c1 c2
  go_wp2
  go_ret
  exact ⟨rfl, hb⟩
set_option maxRecDepth 100000 in
set_option maxHeartbeats 1000000 in
theorem td_arg2 (R : Nat) (an ac : Option Addr) (cn cc : Nat) (N C : List Int) (p : Int) (w : World) (hN : Ints w an N) (hC : Ints w ac C) (hw : isWhl (R : Int) N C = true) (hv : Vw R N C) (h6 : (R : Int) ≤ 60) (hp : inR 0 p (R - 1) = false) :
    Calls Try.prog 15 #[.agg #[.int .i64 (R : Int), .slice an N.length cn, .slice ac C.length cc], .int .i64 p] w (WorksP w) := by
  obtain ⟨W, hW, hb, hs, x0⟩ := boxes1 w #[.int .i64 (R : Int), .slice an N.length cn, .slice ac C.length cc] 24
  clear hs
  have hN0 := hN; have hC0 := hC
  clear hN hC
  have c0 := x0.cell 0 rfl; have c1 := x0.cell 1 rfl; have c2 := x0.cell 2 rfl
  go_enter Try.func15, Try.ntmps15
  go_wp2_with fail
  refine (isWheel_any _ _ _ _ _ _ _ _ (hN0.below hb (Nat.le_refl _)) (hC0.below hb (Nat.le_refl _))).mono ?_
  rintro e W2 ⟨rfl, hb1⟩
  rw [hw]
  clear hW
  (try clear c0 c1 c2); replace x0 := x0.below hb1; have c0 := x0.cell 0 rfl; have c1 := x0.cell 1 rfl; have c2 := x0.cell 2 rfl; replace hb := hb.trans (hb1.mono hb.size); clear hb1
  go_wp2_with fail
  refine (rIsPlace_any _ _ _ _ _ _ _ p _ hv).mono ?_
  rintro e W3 ⟨rfl, hb1⟩
  rw [hp]
  (try clear c0 c1 c2); replace x0 := x0.below hb1; have c0 := x0.cell 0 rfl; have c1 := x0.cell 1 rfl; have c2 := x0.cell 2 rfl; replace hb := hb.trans (hb1.mono hb.size); clear hb1
  go_wp2_with fail
  refine (works_any _).mono ?_
  rintro e V3 ⟨rfl, hb1⟩
  replace hb := hb.trans (hb1.mono hb.size)
  clear hb1 x0 c0 c1 c2
  go_wp2
  go_ret
  exact ⟨rfl, hb⟩
set_option maxRecDepth 100000 in
set_option maxHeartbeats 3000000 in
theorem td_ok (R : Nat) (an ac : Option Addr) (cn cc : Nat) (N C : List Int) (p : Nat) (w : World) (hN : Ints w an N) (hC : Ints w ac C) (hw : isWhl (R : Int) N C = true) (hv : Vw R N C) (h6 : (R : Int) ≤ 60) (hp : p < R) :
    Calls Try.prog 15 #[.agg #[.int .i64 (R : Int), .slice an N.length cn, .slice ac C.length cc], .int .i64 p] w (WorksP w) := by
  have hpB : inR 0 (p : Int) (R - 1) = true := inR_iff.2 (by omega)
  have r1 := hv.r1
  obtain ⟨W, hW, hb, hs, x0⟩ := boxes1 w #[.int .i64 (R : Int), .slice an N.length cn, .slice ac C.length cc] 24
  clear hs
  have hN0 := hN; have hC0 := hC
  clear hN hC
  have c0 := x0.cell 0 rfl; have c1 := x0.cell 1 rfl; have c2 := x0.cell 2 rfl
  go_enter Try.func15, Try.ntmps15
  go_wp2_with fail
  refine (isWheel_any _ _ _ _ _ _ _ _ (hN0.below hb (Nat.le_refl _)) (hC0.below hb (Nat.le_refl _))).mono ?_
  rintro e W2 ⟨rfl, hb1⟩
  rw [hw]
  clear hW
  (try clear c0 c1 c2); replace x0 := x0.below hb1; have c0 := x0.cell 0 rfl; have c1 := x0.cell 1 rfl; have c2 := x0.cell 2 rfl; replace hb := hb.trans (hb1.mono hb.size); clear hb1
  go_wp2_with fail
  refine (rIsPlace_any _ _ _ _ _ _ _ p _ hv).mono ?_
  rintro e W3 ⟨rfl, hb1⟩
  rw [hpB]
  clear hpB hw
  (try clear c0 c1 c2); replace x0 := x0.below hb1; have c0 := x0.cell 0 rfl; have c1 := x0.cell 1 rfl; have c2 := x0.cell 2 rfl; replace hb := hb.trans (hb1.mono hb.size); clear hb1
  go_wp2_with fail
  refine (Tell_ok _ _ _ _ _ _ _ _ (hN0.below hb (Nat.le_refl _)) (hC0.below hb (Nat.le_refl _)) hv).mono ?_
  rintro e W4 ⟨hb1, v, b, rfl, hT⟩
  (try clear c0 c1 c2); replace x0 := x0.below hb1; have c0 := x0.cell 0 rfl; have c1 := x0.cell 1 rfl; have c2 := x0.cell 2 rfl; replace hb := hb.trans (hb1.mono hb.size); clear hb1
  rcases hT with ⟨rfl, a, c, ks, rfl, hK, hl4, hka, htell⟩ | ⟨rfl, rfl⟩
  · have hkB : kindsB C 0 ks = true := by
      unfold kindsB
      rw [Bool.and_eq_true]
      exact ⟨hka, by simp; omega⟩
    have hnow := told_now (p := p) hv htell hp hka hl4
    have Hnow := hid hnow
    clear hnow htell
    have hl4I : (ks.length : Int) ≤ 4 := by omega
    go_wp2_with fail
    refine (areKinds_any _ _ _ _ _ _ _ a c ks 0 _ (hC0.below hb (Nat.le_refl _)) hK).mono ?_
    rintro e W5 ⟨rfl, hb1⟩
    rw [hkB]
    replace hK := hK.below hb1 (Nat.le_refl _)
    (try clear c0 c1 c2); replace x0 := x0.below hb1; have c0 := x0.cell 0 rfl; have c1 := x0.cell 1 rfl; have c2 := x0.cell 2 rfl; replace hb := hb.trans (hb1.mono hb.size); clear hb1
    go_wp2_with fail
    refine (what_any _ _ _ _ _ _ _ p a c ks _ (hN0.below hb (Nat.le_refl _)) (hC0.below hb (Nat.le_refl _)) hK hv hp hka (by omega)).mono ?_
    rintro e W6 ⟨hb1, a6, c6, rfl, hS, -, -⟩
    (try clear c0 c1 c2); replace x0 := x0.below hb1; have c0 := x0.cell 0 rfl; have c1 := x0.cell 1 rfl; have c2 := x0.cell 2 rfl; replace hb := hb.trans (hb1.mono hb.size); clear hb1
    obtain ⟨q, hq⟩ : ∃ q, q = (p + tot C ks) % R := ⟨_, rfl⟩
    rw [← hq] at Hnow ⊢
    have hq6 : q < R := by rw [hq]; exact Nat.mod_lt _ r1
    obtain ⟨S, hSe⟩ : ∃ S, S = whatS R N C p ks := ⟨_, rfl⟩
    rw [← hSe] at hS Hnow ⊢
    clear hq hSe hkB hka hK
    go_wp2_with fail
    refine (now_any _ _ _ _ _ _ _ _ _ S _ (hN0.below hb (Nat.le_refl _)) (hC0.below hb (Nat.le_refl _)) hS).mono ?_
    rintro e W7 ⟨hb1, a7, c7, rfl, hL⟩
    replace hb := hb.trans (hb1.mono hb.size)
    clear hb1 hS x0 c0 c1 c2
    rw [Hnow.out.1]
    rw [Hnow.out.2] at hL ⊢
    have xL := Bx.new W7 #[.int .i64 (q : Int)] 3
    have hbL := below_one (w := W7) (.cells #[.int .i64 (q : Int)] 3)
    have hLit : Ints (W7.alloc (.cells #[.int .i64 (q : Int)] 3)) (some ⟨W7.heap.size, 0, none⟩) [(q : Int)] := Ints.of_bx (xs := [(q : Int)]) xL (by simp) (fun x hx => by rw [List.mem_singleton.1 hx]; omega)
    go_wp2_with fail
    refine (sameInts_any a7 _ c7 1 [(q : Int)] [(q : Int)] _ (hL.below hbL (Nat.le_refl _)) hLit).mono ?_
    rintro e W8 ⟨rfl, hqd⟩
    rw [decide_eq_true (rfl : [(q : Int)] = [(q : Int)])]
    replace hb := (hb.trans (hbL.mono hb.size)).trans ((hqd.below _).mono (hb.trans (hbL.mono hb.size)).size)
    clear hqd hL hLit hbL xL
    go_wp2_with fail
    refine (works_any _).mono ?_
    rintro e V3 ⟨rfl, hb1⟩
    replace hb := hb.trans (hb1.mono hb.size)
    clear hb1
    go_wp2
    go_ret
    exact ⟨rfl, hb⟩
  · go_wp2_with fail
    refine (works_any _).mono ?_
    rintro e V3 ⟨rfl, hb1⟩
    replace hb := hb.trans (hb1.mono hb.size)
    clear hb1 x0 c0 c1 c2
    go_wp2
    go_ret
    exact ⟨rfl, hb⟩
theorem td_any (r : Int) (an ac : Option Addr) (cn cc : Nat) (N C : List Int) (p : Int) (w : World) (hN : Ints w an N) (hC : Ints w ac C) : Calls Try.prog 15 #[.agg #[.int .i64 r, .slice an N.length cn, .slice ac C.length cc], .int .i64 p] w (WorksP w) := by
  cases hw : isWhl r N C
  · exact td_arg0 r an ac cn cc N C p w hN hC hw
  obtain ⟨R, rfl, hv⟩ := isWhl_vw hw
  by_cases h6 : 60 < (R : Int)
  · exact td_arg1 R an ac cn cc N C p w hN hC hw h6
  cases hp : inR 0 p (R - 1)
  · exact td_arg2 R an ac cn cc N C p w hN hC hw hv (by omega) hp
  · have hp' := inR_iff.1 hp
    obtain ⟨q, rfl⟩ := Int.eq_ofNat_of_zero_le hp'.1
    exact td_ok R an ac cn cc N C q w hN hC hw hv (by omega) (by omega)
end Go.Proofs.Ytmkmnedojgigoaa
namespace Go.Proofs.Ytmkmnedojgigoaa
open Go.ChangeShapes Go.WideShapes Go.ChangeAt Go.RowKit Go.Joins

set_option maxRecDepth 100000 in
set_option maxHeartbeats 2000000 in
theorem td_lifted (os : Os) (started : os.Started) (H : Type) (enc : TypeId × Value → H) :
    ReturnsInHanded {} Try.checked os 15 .any (Rows.coinsToldSpec.pre6 enc Try.prog Try.f15 Rows.coinsToldRow.domain false) (Rows.coinsToldSpec.post enc Try.prog Try.f15 false true false false) := by
  refine returnsInHanded_of_change (C := Try.checked) jown started (by kernel_rfl) Try.func15
    (ChangeSpec.witness6 (enc := enc) (C := Try.checked) false ⟨#[], #[.agg #[.int .i64 0, .slice none 0 0, .slice none 0 0], .int .i64 0], []⟩ 8 (by kernel_rfl) (by kernel_rfl) (by kernel_rfl) (by kernel_rfl)) ?_
  intro W base args ds gs before hval0 hW hcnd _
  have hval : ∀ (j : Nat) t v, Try.f15.params[j]? = some t → args[j]? = some v → Value.okWide Try.prog W .any base t v := hval0
  have hW' := hW
  obtain ⟨p, q, hA0, hV, rfl, hfz, hnd⟩ := hW
  have hA : DataW.TrodAll enc Try.prog W 0 (fun _ => true) true Try.f15.params.toList args.toList ds p := hA0
  rw [Try.params15] at hA hval
  obtain ⟨v0, v1, d0, d1, p0, p1, rfl, rfl, rfl, h0, h1⟩ := trodAll_two hA
  obtain ⟨rfl, rfl⟩ := trodVars_none hV
  obtain ⟨r, an, ac, cn, cc, N, C, rfl, hN, hC⟩ := wheel_open (hval 0 24 v0 rfl rfl) h0
  obtain ⟨a, rfl, rfl, rfl, wa⟩ := open_int Try.underlying3 (hval 1 3 v1 rfl rfl) h1
  clear hA0 hval0
  simp only [List.append_nil] at hW'
  have hlt : ∀ x ∈ p0, x.block < W.heap.size := fun x hx => by simpa using hW'.lt x (by simpa using hx)
  have ht0 : ∀ (W' : World), Below W.heap.size W W' → DataW.Trod enc Try.prog W' 0 (fun b => decide (b < W.heap.size)) true 24 _ _ _ :=
    fun W' hn => Below.trod jlaid (by kernel_rfl) (of_decide_eq_true (by kernel_rfl)) h0 hn (fun x hx => hlt x hx)
  refine (td_any r an ac cn cc N C a W hN hC).mono fun e W' ⟨he, hb⟩ => ?_
  subst he
  exact ⟨_, rfl, ⟨_, _, _, [], _, [], hW', trodAll_mk1 (shut_bool Try.underlying4 true), trodAll_mk2 (ht0 _ hb) (shut_int Try.underlying3 wa), rfl, hb.frame _, fun h => by cases h⟩⟩

theorem td_holds : Rows.CoinsToldSaid :=
  OpenClaim.holds_of_wide 15 Try.f15 rfl rfl rfl rfl rfl rfl rfl ⟨rfl, rfl, rfl, rfl, rfl⟩ rfl rfl rfl rfl rfl (by kernel_rfl) Try.func15 (by kernel_rfl)
    (of_decide_eq_true (by kernel_rfl)) (by unfold Func.isWrapper; rw [if_neg (by decide +kernel)]; exact ⟨rfl, rfl⟩)
    (fun os started H enc _ => td_lifted os started H enc)
end Go.Proofs.Ytmkmnedojgigoaa
