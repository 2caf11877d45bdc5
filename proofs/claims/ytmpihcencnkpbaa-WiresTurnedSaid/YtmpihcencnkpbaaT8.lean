import Derived.Test.YtmpihcencnkpbaaT7
import Derived.Maps.OwnOps
import Derived.Maps.RangeWalk
import Derived.Maps.Views
/-! In how many truths a press plays each selection: a map; the greatest of these numbers. -/
namespace Go.Proofs.Ytmpihcencnkpbaa
set_option linter.unusedSimpArgs false
set_option linter.unusedVariables false
open Go Go.RowKit

theorem plF_rng {L N l n : Int} (hN : 1 ≤ N) : ∀ {s : List F3} {x y : Int}, (∀ f ∈ s, Okf L N f) → (0 ≤ x ∧ x < L) → (0 ≤ y ∧ y < N) → -1 ≤ plF N l n s x y ∧ plF N l n s x y ≤ L * N - 1
  | [], x, y, _, hx, hy => by
    rw [plF]
    have h1 : 0 ≤ x * N := Int.mul_nonneg hx.1 (by omega)
    have h2 : (x + 1) * N ≤ L * N := Int.mul_le_mul_of_nonneg_right (by omega) (by omega)
    rw [Int.add_mul, Int.one_mul] at h2
    omega
  | f :: r, x, y, hO, hx, hy => by
    have hf := hO f List.mem_cons_self
    have hr := fun x' y' => plF_rng (L := L) (l := l) (n := n) hN (s := r) (x := x') (y := y') (fun g hg => hO g (List.mem_cons_of_mem _ hg))
    unfold Okf at hf
    have h1 : 0 ≤ L * N := Int.mul_nonneg (by omega) (by omega)
    rw [plF]
    split
    · omega
    · split
      · exact hr _ _ (crI_rng (by omega) hx) hy
      · split
        · exact hr _ _ hx (crI_rng (by omega) hy)
        · exact hr _ _ hx hy
theorem plV_rng {L N l n : Int} {s : List F3} (hN : 1 ≤ N) (hO : ∀ f ∈ s, Okf L N f) (hl : 0 ≤ l ∧ l < L) (hn : 0 ≤ n ∧ n < N) : -1 ≤ plV N s l n ∧ plV N s l n ≤ L * N - 1 := plF_rng hN hO hl hn

/-- A map that counts how often each number is in a list. -/
structure CntI (D : DataW Unit) (l : List Int) : Prop where
  im : Go.Maps.IsMap D
  at' : ∀ x, D.atKey (.int .i64 x) (.lit (.int .i64 0)) = .lit (.int .i64 (l.count x : Nat))
  hs : ∀ kl, Go.Maps.has D kl = true → ∃ x ∈ l, kl = .int .i64 x
  mem : ∀ x ∈ l, Go.Maps.has D (.int .i64 x) = true
theorem litne {x y : Int} (h : x ≠ y) : (Lit.int .i64 x) ≠ .int .i64 y := fun e => h (by cases e; rfl)
theorem CntI.nil : CntI (.map []) [] := ⟨Go.Maps.isMap_empty, fun x => rfl, fun kl h => by simp [Go.Maps.has] at h, fun x h => by simp at h⟩
theorem CntI.snoc {D : DataW Unit} {l : List Int} (h : CntI D l) (x : Int) : CntI (D.put (.int .i64 x) (.lit (.int .i64 ((l.count x + 1 : Nat) : Int)))) (l ++ [x]) := by
  refine ⟨h.im.put _ _, fun y => ?_, fun kl hk => ?_, fun y hy => ?_⟩
  · by_cases e : y = x
    · subst e
      rw [Go.Maps.atKey_put_same (k := .int .i64 y) h.im trivial, List.count_append, List.count_singleton_self]
    · rw [Go.Maps.atKey_put_other (litne e), h.at', List.count_append, List.count_singleton, if_neg (by simpa using fun e2 : x = y => e e2.symm), Nat.add_zero]
  · by_cases e : kl = .int .i64 x
    · exact ⟨x, by simp, e⟩
    · rw [Go.Maps.has_put_other e] at hk
      obtain ⟨y, hy, rfl⟩ := h.hs kl hk
      exact ⟨y, by simp [hy], rfl⟩
  · by_cases e : y = x
    · subst e; exact Go.Maps.has_put_same (k := .int .i64 y) h.im trivial _
    · rw [Go.Maps.has_put_other (litne e)]
      rcases List.mem_append.1 hy with hy | hy
      · exact h.mem y hy
      · simp at hy; exact absurd hy e
theorem law3 : Go.Maps.Keyed Try.prog 3 := Go.Maps.int_keyed Try.underlying3
theorem zero3 (w : World) : (zeroValue 3).run Try.prog w = .ok (.int .i64 0) w := by kernel_rfl
theorem under78 : Try.prog.underlying 78 = some (.map 3 3) := by kernel_rfl
theorem wf64 {x : Int} (h : -9223372036854775808 ≤ x ∧ x ≤ 9223372036854775807) : (Lit.int .i64 x).wf = true := WalkArith.wf_i64 h
/-- What a press plays in each truth. -/
def plL (N : Int) (T : List (List F3)) (l n : Int) : List Int := T.map fun s => plV N s l n
/-- What played hands back. -/
def PlM (l : List Int) (w : World) (e : Ending) (w' : World) : Prop :=
  Below w.heap.size w w' ∧ ∃ (b : Nat) (D : DataW Unit), e = .returned (.map (some b)) ∧ w.heap.size ≤ b ∧ w'.ownsMap Try.prog 3 (plainElem Try.prog 3) b l.length D ∧ CntI D l

set_option maxRecDepth 100000 in
set_option maxHeartbeats 4000000 in
theorem played_any (L N : Int) (aP : Option Addr) (cP : Nat) (P : List F3) (F : Int) (aT : Option Addr) (cT : Nat) (T : List (List F3)) (l n : Int) (w : World) (hT : Rat w aT T) (hL : 1 ≤ L ∧ L ≤ 5) (hN : 1 ≤ N ∧ N ≤ 5) (hl : 0 ≤ l ∧ l < L) (hn : 0 ≤ n ∧ n < N) (hO : ∀ s ∈ T, ∀ f ∈ s, Okf L N f) (hTl : T.length ≤ 900000) :
    Calls Try.prog 73 #[.agg #[.int .i64 L, .int .i64 N, .slice aP P.length cP, .int .i64 F], .slice aT T.length cT, .int .i64 l, .int .i64 n] w (PlM (plL N T l n) w) := by
  obtain ⟨W, hW, hb, hs0, x0⟩ := boxes1 w #[.int .i64 L, .int .i64 N, .slice aP P.length cP, .int .i64 F] 24
  obtain ⟨m, hm⟩ : ∃ m, m = T.length := ⟨_, rfl⟩
  have hpll : (plL N T l n).length = m := by rw [plL, List.length_map, hm]
  have hpl := fun s (hs : s ∈ T) a c v h1 => plays_any L N aP cP P F a c s l n v h1 hL hN hl hn (hO s hs)
  have hrg := hid (fun s (hs : s ∈ T) => plV_rng (l := l) (n := n) hN.1 (hO s hs) hl hn)
  have h25 := hid (show L * N ≤ 25 from Int.mul_le_mul (c := 5) (d := 5) hL.2 hN.2 (by omega) (by omega))
  rw [← hm] at hTl ⊢
  have HM := hid hm
  have HPLL := hid hpll
  have hmm := @run_makeMap Try.prog
  have hown0 := World.ownsMap_made (H := Unit) W Try.prog 3 (plainElem Try.prog 3)
  have hbm := below_one (w := W) (.map #[] 0)
  have hbW : Below W.heap.size W (W.alloc (.map #[] 0)) := hbm
  rw [hs0] at hown0 hbW
  clear hO hm hpll hbm
  have c0 := x0.cell 0 rfl; have c1 := x0.cell 1 rfl; have c2 := x0.cell 2 rfl; have c3 := x0.cell 3 rfl
  go_enter Try.func73, Try.ntmps73
  go_wp2
  clear c0 c1 c2 c3
  go_loopw [11, 15] (fun v11 v15 wr => ∃ (j : Nat) (D : DataW Unit), j ≤ m ∧ v15 = .int .i64 (j : Int) ∧ wr.ownsMap Try.prog 3 (plainElem Try.prog 3) (w.heap.size + 1) j D ∧ Hid (CntI D (plL N (T.take j) l n)) ∧ Below (w.heap.size + 1) W wr) (fun _ v15 _ => m - (intOf v15).toNat)
  case atStart => exact ⟨0, _, Nat.zero_le _, rfl, hown0, hid CntI.nil, hbW⟩
  case round =>
    clear hown0 hbW
    obtain ⟨j, D, hj, rfl, hown, hD, hb1⟩ := hrel
    by_cases hlt : j < m
    · obtain ⟨bR, oR, s, a', c', rfl, hbl, hc, hsc, hfy, hmem, _, htk⟩ := ((hT.below hb (Nat.le_refl _)).below hb1 (by omega)).at (k := j) (by rw [← HM.out]; exact hlt)
      have hjI : (j : Int) < m := by omega
      have hz0 : (0 : Int) ≤ (j : Int) := by omega
      have hft := fun v h1 => hpl s hmem a' c' v h1
      have hur := hrg.out s hmem
      have HD2 := hid (hD.out.snoc (plV N s l n))
      have hcount : (plL N (T.take j) l n).count (plV N s l n) ≤ j := by
        refine Nat.le_trans List.count_le_length ?_
        rw [plL, List.length_map, List.length_take]; omega
      have heq := hid (show plL N (T.take j) l n ++ [plV N s l n] = plL N (T.take (j + 1)) l n by rw [htk.out, plL, plL, List.map_append]; rfl)
      have hat0 := hid (hD.out.at' (plV N s l n))
      generalize plV N s l n = u at *
      obtain ⟨q, hq⟩ : ∃ q, q = (plL N (T.take j) l n).count u := ⟨_, rfl⟩
      rw [← hq] at HD2 hcount hat0
      have hkey := Go.Maps.keyOf_int_mk (P := Try.prog) Try.underlying3 (wf64 (x := u) (by have := h25.out; omega))
      obtain ⟨ls, hls⟩ : ∃ ls, ls = s.length := ⟨_, rfl⟩
      rw [← hls] at hft hc hsc
      have hwq : IntKind.i64.wrap ((q : Int) + 1) = ((q + 1 : Nat) : Int) := by rw [IntWalk.i64_in _ (by omega)]; omega
      have xr := x0.below (by rw [hs0]; exact hb1)
      clear hls hmem hq hD htk hur
      have c0 := xr.cell 0 rfl; have c1 := xr.cell 1 rfl; have c2 := xr.cell 2 rfl; have c3 := xr.cell 3 rfl
      clear xr
      go_wp2_with fail
      refine (hft _ hfy.1).mono ?_
      rintro e V1 ⟨rfl, hb3⟩
      replace hown := hown.kept (Below.gr' hb3) (by simp)
      replace hb1 := hb1.trans (hb3.mono (by have := hb1.size; omega))
      clear hft c0 c1 c2 c3 hb3 hc hfy
      go_wp2_with (first
        | (at_lookup; refine wpList_lookup_own_int _ rfl _ _ 78 rfl 3 3 .i64 law3 under78 Try.underlying3 (zero3 _) (w.heap.size + 1) j _ rfl hown _ _ rfl hkey ?_; intro c hat hwc
           obtain rfl : c = (q : Int) := by
             have := hat0.out.symm.trans hat
             simp only [DataW.lit.injEq, Lit.int.injEq, true_and] at this
             exact this.symm
           clear hat hwc)
        | (at_mapUpdate; refine wpList_mapUpdate_own _ rfl _ _ _ 78 rfl 3 3 law3 under78 _ (w.heap.size + 1) j _ rfl hown (by unfold maxLen; omega) _ _ _ rfl rfl hkey _ [] (plainElem_int Try.underlying3 (wf64 (by omega))) ?_; intro w1 hown1 hgrow1))
      have hb4 : Below (w.heap.size + 1) W w1 := hb1.grown hgrow1 (by have := hb1.size; omega) (fun k hk => by cases hk; exact Nat.le_refl _)
      have HX := hid (And.intro hown1 (And.intro hb4 (show CntI (D.put (.int .i64 u) (.lit (.int .i64 ((q + 1 : Nat) : Int)))) (plL N (T.take (j + 1)) l n) by rw [← heq.out]; exact HD2.out)))
      clear hown hown1 hgrow1 hb1 hb4 HD2 heq hat0 hkey
      go_roundw
      case rel =>
        obtain ⟨hown, hb, hD⟩ := HX.out
        exact ⟨j + 1, _, by omega, by go_num, hown, hid hD, hb⟩
      case measure => simp [intOf]; omega
    · obtain rfl : j = m := by omega
      have e : T.take j = T := by rw [HM.out, List.take_length]
      have hD2 := hD.out
      rw [e] at hD2
      have hres : PlM (plL N T l n) w (.returned (.map (some (w.heap.size + 1)))) wr := ⟨hb.trans (hb1.mono (by omega)), _, D, rfl, by omega, by rw [HPLL.out]; exact hown, hD2⟩
      have HR := hid hres
      have hjI : ¬ (j : Int) < (j : Int) := by omega
      clear hres hown e hD hD2
      go_wp2
      go_ret
      exact HR.out

/-- The greatest of how often numbers are in a list. -/
def mxL (l : List Int) : Nat := (l.map fun x => l.count x).foldr max 0
theorem foldr_max_le : ∀ (q : List Nat) (x : Nat), x ∈ q → x ≤ q.foldr max 0
  | [], x, h => by simp at h
  | y :: q, x, h => by
    rw [List.foldr_cons]
    rcases List.mem_cons.1 h with rfl | h
    · exact Nat.le_max_left _ _
    · exact Nat.le_trans (foldr_max_le q x h) (Nat.le_max_right _ _)
theorem foldr_max_at : ∀ (q : List Nat), q.foldr max 0 = 0 ∨ q.foldr max 0 ∈ q
  | [] => .inl rfl
  | y :: q => by
    rw [List.foldr_cons]
    rcases Nat.le_total y (q.foldr max 0) with h | h
    · rw [Nat.max_eq_right h]
      rcases foldr_max_at q with h2 | h2
      · exact .inl h2
      · exact .inr (List.mem_cons_of_mem _ h2)
    · rw [Nat.max_eq_left h]; exact .inr List.mem_cons_self
theorem mxL_ge {l : List Int} {x : Int} (h : x ∈ l) : l.count x ≤ mxL l := foldr_max_le _ _ (List.mem_map.2 ⟨x, h, rfl⟩)
theorem mxL_ge' (l : List Int) (x : Int) : l.count x ≤ mxL l := by
  by_cases h : x ∈ l
  · exact mxL_ge h
  · rw [List.count_eq_zero_of_not_mem h]; exact Nat.zero_le _
theorem mxL_at (l : List Int) : mxL l = 0 ∨ ∃ x ∈ l, l.count x = mxL l := by
  rcases foldr_max_at (l.map fun x => l.count x) with h | h
  · exact .inl h
  · obtain ⟨x, h1, h2⟩ := List.mem_map.1 h
    exact .inr ⟨x, h1, h2⟩
theorem mxL_eq {l : List Int} {m : Nat} (h1 : ∀ x ∈ l, l.count x ≤ m) (h2 : m = 0 ∨ ∃ x ∈ l, l.count x = m) : m = mxL l := by
  rcases mxL_at l with h | ⟨x, hx, h⟩
  · rcases h2 with h2 | ⟨y, hy, h2⟩
    · omega
    · have := mxL_ge hy; omega
  · have := h1 x hx
    rcases h2 with h2 | ⟨y, hy, h2⟩
    · omega
    · have := mxL_ge hy; omega
theorem mxL_le (l : List Int) : mxL l ≤ l.length := by
  rcases mxL_at l with h | ⟨x, _, h⟩
  · omega
  · rw [← h]; exact List.count_le_length

set_option maxRecDepth 100000 in
set_option maxHeartbeats 4000000 in
theorem left_any (L N : Int) (aP : Option Addr) (cP : Nat) (P : List F3) (F : Int) (aT : Option Addr) (cT : Nat) (T : List (List F3)) (l n : Int) (w : World) (hT : Rat w aT T) (hL : 1 ≤ L ∧ L ≤ 5) (hN : 1 ≤ N ∧ N ≤ 5) (hl : 0 ≤ l ∧ l < L) (hn : 0 ≤ n ∧ n < N) (hO : ∀ s ∈ T, ∀ f ∈ s, Okf L N f) (hTl : T.length ≤ 900000) :
    Calls Try.prog 75 #[.agg #[.int .i64 L, .int .i64 N, .slice aP P.length cP, .int .i64 F], .slice aT T.length cT, .int .i64 l, .int .i64 n] w fun e w' => e = .returned (.int .i64 (mxL (plL N T l n) : Nat)) ∧ Below w.heap.size w w' := by
  obtain ⟨W, hW, hb, hs0, x0⟩ := boxes1 w #[.int .i64 L, .int .i64 N, .slice aP P.length cP, .int .i64 F] 24
  have hpd := played_any L N aP cP P F aT cT T l n W (hT.below hb (Nat.le_refl _)) hL hN hl hn hO hTl
  have hll : (plL N T l n).length ≤ 900000 := by rw [plL, List.length_map]; exact hTl
  have hPL := hid (show plL N T l n = plL N T l n from rfl)
  obtain ⟨Q, hQ⟩ : ∃ Q, Q = plL N T l n := ⟨_, rfl⟩
  rw [← hQ] at hpd hll ⊢
  clear hQ hPL hO
  have c0 := x0.cell 0 rfl; have c1 := x0.cell 1 rfl; have c2 := x0.cell 2 rfl; have c3 := x0.cell 3 rfl
  go_enter Try.func75, Try.ntmps75
  go_wp2_with fail
  refine hpd.mono ?_
  rintro e W1 ⟨hb1, B, D, rfl, hB, hown, hD⟩
  replace hb := hb.trans (hb1.mono hb.size)
  have hBs := hown.lt
  clear hW hb1 c0 c1 c2 c3 x0 hpd hT
  go_wp2_with (at_range; refine wpList_range_own _ rfl _ 78 rfl 3 3 law3 under78 _ B _ _ rfl hown ?_; intro w0 hrg0 hg0 hs1)
  go_frame
  have hb0 : Below w.heap.size w w0 := hb.trans ((Below.of_gr hg0).mono hb.size)
  clear hg0 hs1 hown
  go_loopw [9, 11] (fun v9 v11 wr => ∃ (q : Nat) (left : Lit → Bool) (cnt : Nat), v9 = .int .i64 (q : Int) ∧ wr.ranges Try.prog 3 (plainElem Try.prog 3) B W1.heap.size Q.length D left cnt ∧ Below w.heap.size w wr ∧ Hid ((∀ x ∈ Q, left (.int .i64 x) = false → Q.count x ≤ q) ∧ (q = 0 ∨ ∃ x ∈ Q, Q.count x = q)) ∧ q ≤ 900000 ∧ Hid (∀ kl, left kl = true → Go.Maps.has D kl = true)) (fun _ _ wr => wr.rangeLeft B W1.heap.size)
  case atStart => exact ⟨0, _, _, rfl, hrg0, hb0, hid (And.intro (fun x hx h => by rw [hD.mem x hx] at h; cases h) (Or.inl rfl)), Nat.zero_le _, hid (fun _ h => h)⟩
  case round =>
    clear hrg0 hb0
    obtain ⟨q, left, cnt, rfl, hrg, hb, hq, hq9, hlf⟩ := hrel
    go_wp2_with (at_next; refine wpList_next_ranges_ii _ rfl _ rfl 3 3 .i64 .i64 law3 Try.underlying3 Try.underlying3 B W1.heap.size _ _ _ _ rfl hrg ?_ ?_)
    · intro _ hl0
      have HR := hid (mxL_eq (l := Q) (m := q) (fun x hx => hq.out.1 x hx (hl0 _)) hq.out.2)
      clear hq hl0 hrg hlf
      go_wp2
      go_ret
      exact ⟨ret_int (by rw [HR.out]), hb⟩
    · intro x c w1 cnt1 hwx hwc hlx hat hrg1 hlt hg1 hs1 hen
      have hc : c = (Q.count x : Nat) := by
        have := (hD.at' x).symm.trans (hat _)
        simp only [DataW.lit.injEq, Lit.int.injEq, true_and] at this
        exact this.symm
      have hxm : x ∈ Q := by
        obtain ⟨y, hy, e⟩ := hD.hs _ (hlf.out _ hlx)
        cases e; exact hy
      have HLF := hid (fun kl (h : (left kl && !kl.sameKey (.int .i64 x)) = true) => hlf.out kl (by rw [Bool.and_eq_true] at h; exact h.1))
      have hcq : Q.count x ≤ 900000 := Nat.le_trans List.count_le_length hll
      have hb1 : Below w.heap.size w w1 := hb.grown hg1 hb.size (fun k hk => by cases hk; omega)
      have hq2 : (∀ y ∈ Q, (left (.int .i64 y) && !(Lit.int .i64 y).sameKey (.int .i64 x)) = false → Q.count y ≤ max q (Q.count x)) ∧ (max q (Q.count x) = 0 ∨ ∃ y ∈ Q, Q.count y = max q (Q.count x)) := by
        refine ⟨fun y hy h => ?_, ?_⟩
        · cases hly : left (.int .i64 y)
          · exact Nat.le_trans (hq.out.1 y hy hly) (Nat.le_max_left _ _)
          · rw [hly, Bool.true_and, Bool.not_eq_false'] at h
            have := WideAt.sameKey_eq h
            cases this
            exact Nat.le_max_right _ _
        · rcases Nat.le_total q (Q.count x) with h | h
          · rw [Nat.max_eq_right h]; exact .inr ⟨x, hxm, rfl⟩
          · rw [Nat.max_eq_left h]; exact hq.out.2
      have HQ := hid hq2
      obtain ⟨p, hp⟩ : ∃ p, p = Q.count x := ⟨_, rfl⟩
      rw [← hp] at hc hcq HQ
      subst hc
      have HX := hid (And.intro hrg1 hb1)
      have hmx : max (q : Int) (p : Int) = ((max q p : Nat) : Int) := by omega
      have hm9 : max q p ≤ 900000 := by omega
      clear hq hq2 hp hat hlx hxm hg1 hs1 hb1 hlf
      go_wp2
      go_roundw
      case rel =>
        obtain ⟨hrg1, hb1⟩ := HX.out
        exact ⟨max q p, _, cnt1, by rw [← hmx], hrg1, hb1, HQ, hm9, HLF⟩
      case measure => rw [hrg1.left_eq, hrg.left_eq]; exact hlt
end Go.Proofs.Ytmpihcencnkpbaa
