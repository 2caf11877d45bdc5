import Derived.Test.YtmkmnedojgigoaaW5
import Derived.Test.YtmkmnedojgigoaaW3
import Derived.Test.YtmkmnedojgigoaaR2
namespace Go.Proofs.Ytmkmnedojgigoaa
open Go.RowKit

theorem get_dec (s : Sp) (k j : Nat) (hk : k ≤ 3) (hj : j ≤ 3) : (s.dec (k : Int)).get (j : Int) = if j = k then s.get (j : Int) - 1 else s.get (j : Int) := by
  have h1 : k = 0 ∨ k = 1 ∨ k = 2 ∨ k = 3 := by omega
  have h2 : j = 0 ∨ j = 1 ∨ j = 2 ∨ j = 3 := by omega
  rcases h1 with rfl | rfl | rfl | rfl <;> rcases h2 with rfl | rfl | rfl | rfl <;> simp [Sp.dec, Sp.get]
theorem get_none {s : Sp} (h : s.cnt = 0) (k : Int) : s.get k = 0 := by
  unfold Sp.cnt at h
  unfold Sp.get
  repeat' split
  all_goals omega
/-- What a best way is. -/
theorem way_is {R : Nat} {N C : List Int} (hv : Vw R N C) : ∀ (n : Nat) (s : Sp), mu s ≤ n → OKs R s → Fit C s →
    (∀ k : Nat, k ≤ 3 → cntA k (wayF R N C n s) = s.get (k : Int)) ∧ (∀ (c : Nat) (m : Int), s.c ≤ c → buyL R N C ⟨s.p, c⟩ m (wayF R N C n s) = m + bst btm R N C s) ∧
      (wayF R N C n s).all (isActB C) = true ∧ (if s.p = 0 then (wayF R N C n s).length + (if s.cnt = 0 then 0 else 1) ≤ 2 * coinsA (wayF R N C n s) else (wayF R N C n s).length ≤ 2 * coinsA (wayF R N C n s)) ∧ (wayF R N C n s).length ≤ mu s := by
  intro n
  induction n with
  | zero =>
    intro s hmu ho hf
    have h0 : s.cnt = 0 := by unfold mu at hmu; omega
    have hb : bst btm R N C s = 0 := by
      rcases bst_act (bt := btm) hv ho with h | ⟨a, a1, a2, hc, _⟩
      · exact h
      · have hcc := ho.c
        unfold canS at hc
        split at hc
        · simp at hc; omega
        · have := get_none h0 a
          simp at hc; omega
    refine ⟨fun k _ => by rw [get_none h0]; rfl, fun c m _ => by rw [hb]; simp [wayF, buyL], rfl, ?_, by simp [wayF]⟩
    simp [wayF, coinsA, h0]
  | succ n ih =>
    intro s hmu ho hf
    by_cases h0 : s.cnt = 0
    · have hb : bst btm R N C s = 0 := by
        rcases bst_act (bt := btm) hv ho with h | ⟨a, a1, a2, hc, _⟩
        · exact h
        · have hcc := ho.c
          unfold canS at hc
          split at hc
          · simp at hc; omega
          · have := get_none h0 a
            simp at hc; omega
      rw [wayF_done R N C h0]
      refine ⟨fun k _ => by rw [get_none h0]; rfl, fun c m _ => by rw [hb]; simp [buyL], rfl, ?_, by simp⟩
      simp [coinsA, h0]
    · obtain ⟨a1, a2, hc, hb⟩ := bact_ok hv ho hf h0
      obtain ⟨ho', hm'⟩ := nxt_ok hv ho hc
      obtain ⟨i1, i2, i3, i4, i5⟩ := ih (nxt R N C s (bact R N C s)) (by omega) ho' (fit_nxt hf _)
      rw [wayF, if_neg h0]
      generalize bact R N C s = a at *
      have c4 := hv.c4
      by_cases e : a = -1
      · subst e
        rw [nxt_sel] at *
        have hcs : 0 < s.c ∧ 0 < s.p := by
          unfold canS at hc
          rw [if_pos rfl] at hc
          simpa using hc
        generalize wayF R N C n _ = l at *
        refine ⟨fun k hk => ?_, fun c m hcm => ?_, ?_, ?_, ?_⟩
        · rw [cntA, i1 k hk, if_neg (by omega), Nat.zero_add]; rfl
        · have hact : act R N C ⟨s.p, c⟩ (-1) = (⟨0, c - 1⟩, true) := by
            unfold act
            rw [if_pos rfl, if_neg (show ¬ c = 0 by omega)]
          rw [buyL, hact]
          dsimp only
          rw [i2 (c - 1) _ (by show s.c - 1 ≤ c - 1; omega), hb]
          simp [bgt]; omega
        · rw [List.all_cons, i3]; rfl
        · rw [if_neg (by omega)]
          rw [if_pos rfl] at i4
          have hcn : ({ s with p := 0, c := s.c - 1 } : Sp).cnt = s.cnt := rfl
          rw [hcn, if_neg h0] at i4
          rw [List.length_cons, coinsA, if_neg (by omega)]
          omega
        · rw [List.length_cons]; omega
      · obtain ⟨k0, rfl⟩ := Int.eq_ofNat_of_zero_le (show 0 ≤ a by omega)
        have hget : 0 < s.get (k0 : Int) := by
          unfold canS at hc
          rw [if_neg e] at hc
          simpa using hc
        have hp' : (nxt R N C s (k0 : Int)).p = (s.p + cw C k0) % R := by rw [nxt_coin _ _ _ _ _ e]; rfl
        have hc' : (nxt R N C s (k0 : Int)).c ≤ s.c + gv R N s.p (cw C k0) := by rw [nxt_coin _ _ _ _ _ e]; exact Nat.min_le_left _ _
        have hg' : ∀ j : Nat, (nxt R N C s (k0 : Int)).get (j : Int) = (s.dec (k0 : Int)).get (j : Int) := fun j => by rw [nxt_coin _ _ _ _ _ e]; rfl
        refine ⟨fun k hk => ?_, fun c m hcm => ?_, ?_, ?_, ?_⟩
        · rw [cntA, i1 k hk, hg', get_dec s k0 k (by omega) hk]
          by_cases ek : k = k0
          · subst ek; rw [if_pos rfl, if_pos rfl]; omega
          · rw [if_neg (by omega), if_neg ek]; omega
        · have hact : act R N C ⟨s.p, c⟩ (k0 : Int) = (⟨(s.p + cw C k0) % R, c + gv R N s.p (cw C k0)⟩, false) := by
            unfold act
            rw [if_neg e]; rfl
          rw [buyL, hact]
          dsimp only
          rw [← hp', i2 (c + gv R N s.p (cw C k0)) _ (by omega), hb]
          unfold bgt
          rw [if_neg e, Int.toNat_natCast]
          simp; omega
        · rw [List.all_cons, i3, Bool.and_true]
          simp only [isActB, Bool.or_eq_true, inR_iff]
          exact .inr (by omega)
        · have i4' : (wayF R N C n (nxt R N C s (k0 : Int))).length ≤ 2 * coinsA (wayF R N C n (nxt R N C s (k0 : Int))) := by
            split at i4 <;> omega
          have e1 : coinsA ((k0 : Int) :: wayF R N C n (nxt R N C s (k0 : Int))) = 1 + coinsA (wayF R N C n (nxt R N C s (k0 : Int))) := by rw [coinsA, if_pos (by omega)]
          rw [List.length_cons, e1]
          by_cases hp0 : s.p = 0
          · rw [if_pos hp0, if_neg h0]; omega
          · rw [if_neg hp0]; omega
        · rw [List.length_cons]; omega
theorem fit_ps {C xs : List Int} (ho : okP C xs = true) : Fit C (ps0 xs) := fun k h1 h2 => by
  have hl := (okP_mem ho).1
  have hz : bgN xs k = 0 := by simp [bgN, List.getD, List.getElem?_eq_none (show xs.length ≤ k by omega)]
  have h : k = 0 ∨ k = 1 ∨ k = 2 ∨ k = 3 := by omega
  rcases h with rfl | rfl | rfl | rfl
  · exact hz
  · exact hz
  · exact hz
  · exact hz
theorem ps_get {xs : List Int} (k : Nat) (hk : k ≤ 3) : (ps0 xs).get (k : Int) = bgN xs k := by
  have h : k = 0 ∨ k = 1 ∨ k = 2 ∨ k = 3 := by omega
  rcases h with rfl | rfl | rfl | rfl <;> rfl
/-- What Order answers. -/
def ordL (R : Nat) (N C xs : List Int) : List Int := wayF R N C 30 (ps0 xs)
theorem ord_is {R : Nat} {N C xs : List Int} (hv : Vw R N C) (ho : okP C xs = true) :
    bagA C.length (ordL R N C xs) = xs ∧ buyL R N C ⟨0, 0⟩ 0 (ordL R N C xs) = bst btm R N C (ps0 xs) ∧ (ordL R N C xs).all (isActB C) = true ∧ (ordL R N C xs).length ≤ 2 * coinsA (ordL R N C xs) ∧ (ordL R N C xs).length ≤ 24 := by
  have hok := ps0_ok hv ho
  have hmu : mu (ps0 xs) ≤ 24 := by
    have := hok.2
    unfold mu
    rw [show (ps0 xs).p = 0 from rfl]
    simp; omega
  obtain ⟨h1, h2, h3, h4, h5⟩ := way_is hv 30 (ps0 xs) (by omega) hok (fit_ps ho)
  obtain ⟨o1, o2, _⟩ := okP_mem ho
  have c4 := hv.c4
  refine ⟨?_, by have := h2 0 0 (Nat.le_refl _); rw [Int.zero_add] at this; exact this, h3, ?_, by unfold ordL; omega⟩
  · refine List.ext_getElem (by rw [bagA_len]; exact o1.symm) fun k hk1 hk2 => ?_
    have hk : k < C.length := by rw [bagA_len] at hk1; exact hk1
    have e : (bagA C.length (ordL R N C xs))[k] = (cntA k (ordL R N C xs) : Int) := by simp [bagA]
    rw [e, show cntA k (ordL R N C xs) = bgN xs k by unfold ordL; rw [h1 k (by omega), ps_get k (by omega)]]
    have := (o2 _ (List.getElem_mem hk2)).1
    simp [bgN, List.getD, hk2]
    omega
  · unfold ordL
    rw [if_pos (show (ps0 xs).p = 0 from rfl)] at h4
    split at h4 <;> omega

set_option maxRecDepth 100000 in
set_option maxHeartbeats 1000000 in
theorem Order_ok (R : Nat) (an ac : Option Addr) (cn cc : Nat) (N C : List Int) (a : Option Addr) (ca : Nat) (xs : List Int) (w : World) (hN : Ints w an N) (hC : Ints w ac C) (hX : Ints w a xs) (hv : Vw R N C) (ho : okP C xs = true) :
    Calls Try.prog 34 #[.agg #[.int .i64 (R : Int), .slice an N.length cn, .slice ac C.length cc], .slice a xs.length ca] w fun e w' => Below w.heap.size w w' ∧ ∃ (a' : Option Addr) (ca' : Nat), e = .returned (.tuple #[.slice a' (ordL R N C xs).length ca', .int .i64 0]) ∧ Ints w' a' (ordL R N C xs) := by
  have hfit := fit_ps ho
  obtain ⟨W, hW, hb, hs, x0⟩ := boxes1 w #[.int .i64 (R : Int), .slice an N.length cn, .slice ac C.length cc] 24
  clear hs
  replace hN := hN.below hb (Nat.le_refl _); replace hC := hC.below hb (Nat.le_refl _); replace hX := hX.below hb (Nat.le_refl _)
  have c0 := x0.cell 0 rfl; have c1 := x0.cell 1 rfl; have c2 := x0.cell 2 rfl
  have Hv := hid hv; clear hv
  go_enter Try.func34, Try.ntmps34
  go_wp2_with fail
  refine (searchOf_ok_75 _ _ _ _ _ _ _ _ _ _ _ hN hC hX Hv.out ho).mono ?_
  rintro e W1 ⟨ap, cp, P, mb, b0, b1, b2, b3, rfl, hb1, hmb, hk, hoff, hown, B0, B1, B2, B3, hsum⟩
  have hs := hb.size
  replace hb := hb.trans (hb1.mono hb.size)
  have HB := hid (show ps0 xs = ⟨b0, b1, b2, b3, 0, 0⟩ by rw [ps0, B0, B1, B2, B3])
  rw [HB.out] at hfit
  have hz := hb.size
  clear c0 c1 c2 hW x0 hb1 hN hC hX B0 B1 B2 B3
  go_wp2_with fail
  generalize hXX : World.alloc _ _ = W2
  have bb : Below W1.heap.size W1 W2 := by rw [← hXX]; (repeat (first | with_reducible assumption | with_reducible refine Below.alloc ?_ (by simp; try omega) _ | with_reducible refine Below.setCell ?_ (by simp; try omega) _ | with_reducible refine below_drewN ?_ _ | with_reducible exact Below.refl _ _))
  have bb0 := bb
  clear hXX
  replace hk := hk.below bb (Nat.le_refl _); replace hb := hb.trans (bb.mono hb.size); clear bb
  replace hown := hown.gr bb0
  clear bb0
  refine (way_any _ _ _ _ _ _ _ _ _ _ mb ⟨b0, b1, b2, b3, 0, 0⟩ _ _ 0 hk hoff hown (MemoB_empty _ _ _ _) (by omega) hsum rfl rfl hfit).mono ?_
  rintro e W3 ⟨hg1, a', ca', rfl, hi⟩
  replace hb := hb.grown hg1 hb.size (fun k hk => by cases hk; omega)
  clear hk hown hg1
  obtain ⟨l, hl⟩ : ∃ x, x = ordL R N C xs := ⟨_, rfl⟩
  have Hl := hid hl
  unfold ordL at hl
  rw [HB.out] at hl
  rw [← hl] at hi ⊢
  clear hl
  go_wp2
  refine bodyPost_ret (v := .tuple #[.slice a' l.length ca', .int .i64 0]) ?_ rfl ⟨hb, a', ca', by rw [Hl.out], by rw [← Hl.out]; exact hi⟩
  simp [results, Try.results34, go_sem]
end Go.Proofs.Ytmkmnedojgigoaa
namespace Go.Proofs.Ytmkmnedojgigoaa

/-- The spot of a bag at a stand, the credit cut down to the coins that are left. -/
def cutS (s : Sp) : Sp := { s with c := min s.c s.cnt }
theorem foldl_ext {α β : Type} {f g : α → β → α} : ∀ (l : List β) (a : α), (∀ a, ∀ b ∈ l, f a b = g a b) → l.foldl f a = l.foldl g a
  | [], _, _ => rfl
  | b :: l, a, h => by
    rw [List.foldl_cons, List.foldl_cons, h a b (List.mem_cons_self ..)]
    exact foldl_ext l _ fun a c hc => h a c (List.mem_cons_of_mem _ hc)
/-- At the place 0 one credit more than can be used makes no difference. -/
theorem bst_zero {bt : Nat → Nat → Bool} {R : Nat} {N C : List Int} (hv : Vw R N C) {s t : Sp} (hs : OKs R s) (ht : OKs R t) (hp : s.p = 0) (hd : ∀ a, s.dec a = { t.dec a with c := (s.dec a).c }) (hg : ∀ a, s.get a = t.get a) (hn : s.cnt = t.cnt) (hpt : t.p = 0) (hc : s.cnt - 1 ≤ s.c ∧ s.cnt - 1 ≤ t.c) :
    bst bt R N C s = bst bt R N C t := by
  rw [bst_eq hv hs, bst_eq hv ht]
  unfold ch
  rw [foldl_ext (g := look bt (bst bt R N C) R N C t) _ _ fun st a _ => ?_]
  have hcs : canS s a = canS t a := by
    unfold canS
    split
    · rw [hp, hpt]; simp
    · rw [hg]
  by_cases hca : canS t a = true
  · have ha : a ≠ -1 := by
      rintro rfl
      unfold canS at hca
      rw [if_pos rfl, hpt] at hca
      simp at hca
    have hget : 0 < t.get a := by
      unfold canS at hca
      rw [if_neg ha] at hca
      simpa using hca
    have hcn : ∀ u : Sp, 0 < u.get a → (u.dec a).cnt = u.cnt - 1 := fun u hu => by
      unfold Sp.get at hu
      unfold Sp.dec
      repeat' split at hu
      all_goals (simp_all [Sp.cnt]; try omega)
    have hb : bgt R N C s a = bgt R N C t a := by unfold bgt; rw [hp, hpt]
    have hx : nxt R N C s a = nxt R N C t a := by
      rw [nxt_coin _ _ _ _ _ ha, nxt_coin _ _ _ _ _ ha, hp, hpt]
      have h1 := hcn t hget
      have h2 := hcn s (by rw [hg]; exact hget)
      have e1 : min (s.c + gv R N 0 (cw C a.toNat)) (s.dec a).cnt = min (t.c + gv R N 0 (cw C a.toNat)) (t.dec a).cnt := by
        rw [h1, h2, ← hn]; omega
      rw [e1, hd a]
    unfold look
    rw [hcs, hb, hx]
  · unfold look
    rw [hcs, if_neg hca, if_neg hca]
end Go.Proofs.Ytmkmnedojgigoaa
namespace Go.Proofs.Ytmkmnedojgigoaa
open Go.RowKit

theorem cutS_ok {R : Nat} {s : Sp} (hp : s.p < R) (hn : s.cnt ≤ 12) : OKs R (cutS s) := ⟨hp, hn, Nat.min_le_right _ _⟩
/-- The spot behind a coin, the credit whole. -/
def coinS (R : Nat) (N C : List Int) (s : Sp) (a : Int) : Sp := { s.dec a with p := (s.p + cw C a.toNat) % R, c := s.c + gv R N s.p (cw C a.toNat) }
theorem dec_cnt1 {s : Sp} {a : Int} (h : 0 < s.get a) : (s.dec a).cnt = s.cnt - 1 := by
  unfold Sp.get at h
  unfold Sp.dec
  repeat' split at h
  all_goals (simp_all [Sp.cnt]; try omega)
theorem cut_coin {R : Nat} {N C : List Int} {s : Sp} {a : Int} (ha : a ≠ -1) (h : 0 < s.get a) : nxt R N C (cutS s) a = cutS (coinS R N C s a) := by
  have hc := dec_cnt1 h
  have hc2 : ((cutS s).dec a).cnt = s.cnt - 1 := dec_cnt1 (s := cutS s) h
  have hpos : 0 < s.cnt := by
    unfold Sp.get at h
    unfold Sp.cnt
    repeat' split at h
    all_goals omega
  rw [nxt_coin _ _ _ _ _ ha]
  have e1 : (coinS R N C s a).cnt = s.cnt - 1 := hc
  have e : min ((cutS s).c + gv R N (cutS s).p (cw C a.toNat)) ((cutS s).dec a).cnt = min (coinS R N C s a).c (coinS R N C s a).cnt := by
    rw [hc2, e1]
    show min (min s.c s.cnt + gv R N s.p (cw C a.toNat)) (s.cnt - 1) = min (s.c + gv R N s.p (cw C a.toNat)) (s.cnt - 1)
    omega
  rw [e]
  unfold cutS coinS Sp.dec
  repeat' split
  all_goals rfl
theorem cut_sel {bt : Nat → Nat → Bool} {R : Nat} {N C : List Int} (hv : Vw R N C) {s : Sp} (hn : s.cnt ≤ 12) (h0 : 0 < s.cnt) (hc : 0 < s.c) :
    bst bt R N C (nxt R N C (cutS s) (-1)) = bst bt R N C (cutS { s with p := 0, c := s.c - 1 }) := by
  have r1 := hv.r1
  rw [nxt_sel]
  by_cases h : s.c ≤ s.cnt
  · have e1 : ({ cutS s with p := 0, c := (cutS s).c - 1 } : Sp) = cutS { s with p := 0, c := s.c - 1 } := by
      unfold cutS
      have e2 : min s.c s.cnt - 1 = min (s.c - 1) s.cnt := by omega
      have e3 : ({ s with p := 0, c := s.c - 1 } : Sp).cnt = s.cnt := rfl
      rw [e3]
      dsimp only
      rw [e2]
    rw [e1]
  · refine bst_zero hv ⟨by show 0 < R; omega, hn, ?_⟩ ⟨by show 0 < R; omega, hn, Nat.min_le_right _ _⟩ rfl (fun a => ?_) (fun a => rfl) rfl rfl ⟨?_, ?_⟩
    · show min s.c s.cnt - 1 ≤ s.cnt; omega
    · unfold Sp.dec
      repeat' split
      all_goals rfl
    · show s.cnt - 1 ≤ min s.c s.cnt - 1; omega
    · show s.cnt - 1 ≤ min (s.c - 1) s.cnt; omega
theorem cut_can {s : Sp} : canS (cutS s) (-1) = (decide (0 < s.c) && decide (0 < s.p) && decide (0 < s.cnt)) := by
  unfold canS
  rw [if_pos rfl]
  show (decide (0 < min s.c s.cnt) && decide (0 < s.p)) = _
  rw [Bool.eq_iff_iff]
  simp only [Bool.and_eq_true, decide_eq_true_eq]
  omega
theorem cut_get (s : Sp) (a : Int) : (cutS s).get a = s.get a := rfl

theorem look_le {f : Sp → Nat} {R : Nat} {N C : List Int} {s : Sp} (st : Option (Int × Nat)) (x : Int) :
    (∀ p, st = some p → ∃ q, look btf f R N C s st x = some q ∧ q.2 ≤ p.2) ∧ (canS s x = true → ∃ q, look btf f R N C s st x = some q ∧ q.2 ≤ bgt R N C s x + f (nxt R N C s x)) := by
  unfold look
  by_cases hc : canS s x = true
  · rw [if_pos hc]
    rcases st with _ | ⟨a0, v0⟩
    · exact ⟨fun p hp => (by cases hp), fun _ => ⟨_, rfl, Nat.le_refl _⟩⟩
    · dsimp only
      by_cases hb : btf (bgt R N C s x + f (nxt R N C s x)) v0 = true
      · rw [if_pos hb]
        simp only [btf, decide_eq_true_eq] at hb
        exact ⟨fun p hp => (by cases hp; exact ⟨_, rfl, by dsimp only; omega⟩), fun _ => ⟨_, rfl, Nat.le_refl _⟩⟩
      · rw [if_neg hb]
        simp only [btf, decide_eq_true_eq] at hb
        exact ⟨fun p hp => (by cases hp; exact ⟨_, rfl, Nat.le_refl _⟩), fun _ => ⟨_, rfl, by dsimp only; omega⟩⟩
  · rw [if_neg hc]
    exact ⟨fun p hp => ⟨p, hp, Nat.le_refl _⟩, fun h => absurd h hc⟩
theorem fold_look_le {f : Sp → Nat} {R : Nat} {N C : List Int} {s : Sp} : ∀ (l : List Int) (st : Option (Int × Nat)),
    (∀ p, st = some p → ∃ q, l.foldl (look btf f R N C s) st = some q ∧ q.2 ≤ p.2) ∧ ∀ x ∈ l, canS s x = true → ∃ q, l.foldl (look btf f R N C s) st = some q ∧ q.2 ≤ bgt R N C s x + f (nxt R N C s x)
  | [], st => ⟨fun p hp => ⟨p, hp, Nat.le_refl _⟩, fun x hx => by simp at hx⟩
  | y :: l, st => by
    obtain ⟨h1, h2⟩ := look_le (f := f) (R := R) (N := N) (C := C) (s := s) st y
    obtain ⟨i1, i2⟩ := fold_look_le (f := f) (R := R) (N := N) (C := C) (s := s) l (look btf f R N C s st y)
    rw [List.foldl_cons]
    refine ⟨fun p hp => ?_, fun x hx hc => ?_⟩
    · obtain ⟨q, hq, hl⟩ := h1 p hp
      obtain ⟨q', hq', hl'⟩ := i1 q hq
      exact ⟨q', hq', Nat.le_trans hl' hl⟩
    · rcases List.mem_cons.1 hx with rfl | hx
      · obtain ⟨q, hq, hl⟩ := h2 hc
        obtain ⟨q', hq', hl'⟩ := i1 q hq
        exact ⟨q', hq', Nat.le_trans hl' hl⟩
      · exact i2 x hx hc
theorem bst_lo {R : Nat} {N C : List Int} (hv : Vw R N C) {s : Sp} (ho : OKs R s) {a : Int} (h1 : -1 ≤ a) (h2 : a < C.length) (hc : canS s a = true) :
    bst btf R N C s ≤ bgt R N C s a + bst btf R N C (nxt R N C s a) := by
  rw [bst_eq (bt := btf) hv ho]
  obtain ⟨q, hq, hl⟩ := (fold_look_le (f := bst btf R N C) (R := R) (N := N) (C := C) (s := s) (down (C.length + 1)) none).2 a (down_has _ _ h1 (by omega)) hc
  unfold ch
  rw [hq]
  exact hl
/-- Some act begins a best way. -/
theorem bst_att {bt : Nat → Nat → Bool} {R : Nat} {N C : List Int} (hv : Vw R N C) {s : Sp} (ho : OKs R s) (hf : Fit C s) (hn : s.cnt ≠ 0) :
    ∃ a : Int, -1 ≤ a ∧ a < C.length ∧ canS s a = true ∧ bst bt R N C s = bgt R N C s a + bst bt R N C (nxt R N C s a) := by
  have h := bst_eq (bt := bt) hv ho
  rcases hc : ch bt (bst bt R N C) R N C s with _ | ⟨a, v⟩
  · obtain ⟨k, hk3, hk⟩ := get_pos hn
    have hkC : k < C.length := by
      by_cases hh : k < C.length
      · exact hh
      · have := hf k (by omega) hk3; omega
    have h2 := (look_none _ _ hc).2 (k : Int) (down_has _ _ (by omega) (by omega))
    unfold canS at h2
    rw [if_neg (by omega)] at h2
    simp at h2; omega
  · rw [hc] at h
    obtain ⟨h1, h2, h3⟩ := look_some _ none (fun a v e => by cases e) a v hc
    rcases h3 with h3 | h3
    · have := down_mem _ _ h3
      exact ⟨a, by omega, by omega, h1, by rw [h]; exact h2⟩
    · cases h3
end Go.Proofs.Ytmkmnedojgigoaa
namespace Go.Proofs.Ytmkmnedojgigoaa
open Go.RowKit

/-- One coin of a kind less. -/
def lessL (xs : List Int) (k : Nat) : List Int := xs.set k (xs.getD k 0 - 1)
set_option maxRecDepth 100000 in
set_option maxHeartbeats 1000000 in
theorem less_any (a : Option Addr) (ca : Nat) (xs : List Int) (k : Nat) (w : World) (hX : Ints w a xs) (hl : xs.length ≤ 1000) (hk : k < xs.length) (hx : ∀ x ∈ xs, 0 ≤ x ∧ x ≤ 1000) :
    Calls Try.prog 100 #[.slice a xs.length ca, .int .i64 (k : Nat)] w (RowPost (lessL xs k) w) := by
  obtain ⟨j0, hj, jz0, jz1, jz2⟩ := info_parts info3
  have hown := own_lit0 w 3 1
  have hb1 := below_one (w := w) (.cells #[] 3)
  have hcl := (hX.below hb1 (Nat.le_refl _)).cls
  have hxk := hx _ (List.getElem_mem hk)
  have hgd : xs.getD k 0 = xs[k] := by simp [List.getD, hk]
  have hat : (xs.map (Value.int .i64))[k]? = some (.int .i64 xs[k]) := by simp [hk]
  obtain ⟨x, hxe⟩ : ∃ x, x = xs[k] := ⟨_, rfl⟩
  rw [← hxe] at hxk hgd hat
  have Hgd := hid hgd
  clear hgd hxe hX
  generalize hn : xs.length = n at *
  have Hn := hid hn; clear hn
  go_enter Try.func100, Try.ntmps100
  go_upto_region 2 with (at_builtin; refine wpList_app rfl (.tmp 6) (.tmp 7) 22 rfl w.heap.size 3 j0 (.int .i64 0) 1 8 under22 hj jz0 jz1 jz2 rfl (by decide) _ 0 [] rfl hown a n ca (xs.map (Value.int .i64)) rfl (by simp [Hn.out]) hcl (ints_one xs) (by unfold maxLen; omega) (by omega) (by simp) ?_; intro v1 W3 hown' hg)
  have hb2 := hb1.grown hg (by simp) (own_ge hown)
  clear hown hb1 hcl hg
  rw [Nat.zero_add, List.nil_append] at hown'
  obtain ⟨g, cap, rfl⟩ := Go.Joins.ownsRow_form hown' (by omega)
  have hc := hown'.cellAt k (by omega)
  rw [hat] at hc
  have hf := hown'.frozenAt k
  obtain ⟨hst, hsg⟩ := hown'.stored k (.int .i64 (x - 1))
  have hgb := (hown'.lt g rfl).1
  have hb3 := hb2.setCell (show w.heap.size ≤ (⟨g, k, none⟩ : Addr).block from hgb) (.int .i64 (x - 1))
  have hkI : (k : Int) < (n : Int) := by omega
  have hk0 : (0 : Int) ≤ (k : Int) := by omega
  have hset : (xs.map (Value.int .i64)).set k (.int .i64 (x - 1)) = (lessL xs k).map (Value.int .i64) := by rw [lessL, Hgd.out, List.map_set]
  have hlen : (lessL xs k).length = n := by rw [lessL, List.length_set]; exact Hn.out
  rw [hset] at hst
  have hrow : (W3.setCell ⟨g, k, none⟩ (.int .i64 (x - 1))).ownsRow w.heap.size 3 1 (.slice (some ⟨g, 0, none⟩) n cap) (lessL xs k).length ((lessL xs k).map (Value.int .i64)) := by rw [hlen]; exact hst
  have hrng : ∀ y ∈ lessL xs k, -9223372036854775808 ≤ y ∧ y ≤ 9223372036854775807 := fun y hy => by
    rcases List.mem_or_eq_of_mem_set hy with h | h
    · have := hx y h; omega
    · rw [h, Hgd.out]; omega
  obtain ⟨a9, c9, e9, hi⟩ := Ints.of_own hrow (by omega) hrng
  have hnew := own_new (a := some ⟨g, 0, none⟩) hrow
  simp only [Value.slice.injEq] at e9
  obtain ⟨rfl, -, rfl⟩ := e9
  have Hlen := hid hlen
  clear hlen
  clear hrow hst hsg hset hown' hat
  go_wp2
  go_ret
  exact ⟨hb3, some ⟨g, 0, none⟩, cap, by rw [Hlen.out]; rfl, hi, hnew⟩
end Go.Proofs.Ytmkmnedojgigoaa
namespace Go.Proofs.Ytmkmnedojgigoaa
open Go.RowKit

/-- What a coin of a kind, put in first, buys in the end. -/
def candS (bt : Nat → Nat → Bool) (R : Nat) (N C : List Int) (s : Sp) (i : Nat) : Nat := gv R N s.p (cw C i) + bst bt R N C (cutS (coinS R N C s (i : Int)))
/-- The spot behind a selection. -/
def selS (s : Sp) : Sp := { s with p := 0, c := s.c - 1 }
theorem cand_eq {bt : Nat → Nat → Bool} {R : Nat} {N C : List Int} {s : Sp} {i : Nat} (h : 0 < s.get (i : Int)) :
    bgt R N C (cutS s) (i : Int) + bst bt R N C (nxt R N C (cutS s) (i : Int)) = candS bt R N C s i := by
  rw [cut_coin (by omega) h]
  unfold candS bgt
  rw [if_neg (by omega)]
  rfl
theorem sel_eq {bt : Nat → Nat → Bool} {R : Nat} {N C : List Int} (hv : Vw R N C) {s : Sp} (hn : s.cnt ≤ 12) (h0 : s.cnt ≠ 0) (hc : 0 < s.c) :
    bgt R N C (cutS s) (-1) + bst bt R N C (nxt R N C (cutS s) (-1)) = bst bt R N C (cutS (selS s)) := by
  rw [cut_sel hv hn (by omega) hc]
  unfold bgt
  rw [if_pos rfl, Nat.zero_add]
  rfl
theorem can_coin {s : Sp} {i : Nat} : canS (cutS s) (i : Int) = decide (0 < s.get (i : Int)) := by
  unfold canS
  rw [if_neg (by omega)]
  rfl
/-- Some act begins a best way, in the words of the whole credit. -/
theorem cut_att {bt : Nat → Nat → Bool} {R : Nat} {N C : List Int} (hv : Vw R N C) {s : Sp} (hp : s.p < R) (hn : s.cnt ≤ 12) (hf : Fit C s) (h0 : s.cnt ≠ 0) :
    (∃ i : Nat, i < C.length ∧ 0 < s.get (i : Int) ∧ bst bt R N C (cutS s) = candS bt R N C s i) ∨ (0 < s.c ∧ 0 < s.p ∧ bst bt R N C (cutS s) = bst bt R N C (cutS (selS s))) := by
  obtain ⟨a, h1, h2, hc, hb⟩ := bst_att (bt := bt) hv (cutS_ok hp hn) (s := cutS s) hf h0
  by_cases ha : a = -1
  · subst ha
    rw [cut_can] at hc
    simp only [Bool.and_eq_true, decide_eq_true_eq] at hc
    rw [sel_eq hv hn h0 hc.1.1] at hb
    exact .inr ⟨hc.1.1, hc.1.2, hb⟩
  · obtain ⟨i, rfl⟩ : ∃ i : Nat, a = (i : Int) := ⟨a.toNat, by omega⟩
    rw [can_coin, decide_eq_true_eq] at hc
    rw [cand_eq hc] at hb
    exact .inl ⟨i, by omega, hc, hb⟩
theorem cut_most {R : Nat} {N C : List Int} (hv : Vw R N C) {s : Sp} (hp : s.p < R) (hn : s.cnt ≤ 12) (hf : Fit C s) (h0 : s.cnt ≠ 0) {m : Nat}
    (hge : ∀ i : Nat, i < C.length → 0 < s.get (i : Int) → candS btm R N C s i ≤ m) (hsel : 0 < s.c → 0 < s.p → bst btm R N C (cutS (selS s)) ≤ m)
    (hat : (∃ i : Nat, i < C.length ∧ 0 < s.get (i : Int) ∧ m = candS btm R N C s i) ∨ (0 < s.c ∧ 0 < s.p ∧ m = bst btm R N C (cutS (selS s)))) : bst btm R N C (cutS s) = m := by
  have ho := cutS_ok hp hn
  apply Nat.le_antisymm
  · rcases cut_att (bt := btm) hv hp hn hf h0 with ⟨i, h1, h2, h3⟩ | ⟨h1, h2, h3⟩
    · rw [h3]; exact hge i h1 h2
    · rw [h3]; exact hsel h1 h2
  · rcases hat with ⟨i, h1, h2, h3⟩ | ⟨h1, h2, h3⟩
    · rw [h3, ← cand_eq h2]
      exact bst_ge hv ho (by omega) (by omega) (by rw [can_coin]; simpa using h2)
    · rw [h3, ← sel_eq hv hn h0 h1]
      exact bst_ge hv ho (by omega) (by omega) (by rw [cut_can]; simp only [Bool.and_eq_true, decide_eq_true_eq]; omega)
theorem cut_least {R : Nat} {N C : List Int} (hv : Vw R N C) {s : Sp} (hp : s.p < R) (hn : s.cnt ≤ 12) (hf : Fit C s) (h0 : s.cnt ≠ 0) {m : Nat}
    (hge : ∀ i : Nat, i < C.length → 0 < s.get (i : Int) → m ≤ candS btf R N C s i) (hsel : 0 < s.c → 0 < s.p → m ≤ bst btf R N C (cutS (selS s)))
    (hat : (∃ i : Nat, i < C.length ∧ 0 < s.get (i : Int) ∧ m = candS btf R N C s i) ∨ (0 < s.c ∧ 0 < s.p ∧ m = bst btf R N C (cutS (selS s)))) : bst btf R N C (cutS s) = m := by
  have ho := cutS_ok hp hn
  apply Nat.le_antisymm
  · rcases hat with ⟨i, h1, h2, h3⟩ | ⟨h1, h2, h3⟩
    · rw [h3, ← cand_eq h2]
      exact bst_lo hv ho (by omega) (by omega) (by rw [can_coin]; simpa using h2)
    · rw [h3, ← sel_eq hv hn h0 h1]
      exact bst_lo hv ho (by omega) (by omega) (by rw [cut_can]; simp only [Bool.and_eq_true, decide_eq_true_eq]; omega)
  · rcases cut_att (bt := btf) hv hp hn hf h0 with ⟨i, h1, h2, h3⟩ | ⟨h1, h2, h3⟩
    · rw [h3]; exact hge i h1 h2
    · rw [h3]; exact hsel h1 h2
/-- Of no coin nothing is bought. -/
theorem cut_zero {bt : Nat → Nat → Bool} {R : Nat} {N C : List Int} (hv : Vw R N C) {s : Sp} (hp : s.p < R) (h0 : s.cnt = 0) : bst bt R N C (cutS s) = 0 := by
  have ho := cutS_ok (s := s) hp (by omega)
  have h := bst_le (bt := bt) hv (mu (cutS s) + 1) (cutS s) (by omega) ho
  have h1 : (cutS s).cnt = 0 := h0
  rw [h1] at h
  omega
theorem coinS_ok {R : Nat} {N C : List Int} (hv : Vw R N C) {s : Sp} (hn : s.cnt ≤ 12) {i : Nat} (h : 0 < s.get (i : Int)) :
    (coinS R N C s (i : Int)).p < R ∧ (coinS R N C s (i : Int)).cnt ≤ 12 ∧ (coinS R N C s (i : Int)).cnt + 1 = s.cnt := by
  have h1 := dec_cnt s (i : Int) h
  have e : (coinS R N C s (i : Int)).cnt = (s.dec (i : Int)).cnt := rfl
  have hr := hv.r1
  exact ⟨Nat.mod_lt _ (by omega), by omega, by omega⟩
theorem coinS_fit {R : Nat} {N C : List Int} {s : Sp} (hf : Fit C s) {i : Nat} : Fit C (coinS R N C s (i : Int)) := by
  intro k h1 h2
  have h := hf k h1 h2
  have e : (coinS R N C s (i : Int)).get (k : Int) = (s.dec (i : Int)).get (k : Int) := rfl
  rw [e]
  unfold Sp.get at h ⊢
  unfold Sp.dec
  repeat' split at h
  all_goals (repeat' split)
  all_goals (simp_all)
end Go.Proofs.Ytmkmnedojgigoaa
namespace Go.Proofs.Ytmkmnedojgigoaa
open Go.RowKit

/-- The spot of a purse as a list. -/
def spL (xs : List Int) (p c : Nat) : Sp := ⟨bgN xs 0, bgN xs 1, bgN xs 2, bgN xs 3, p, c⟩
theorem spL_get {xs : List Int} {p c k : Nat} (hk : k ≤ 3) : (spL xs p c).get (k : Int) = bgN xs k := by
  match k, hk with
  | 0, _ => rfl
  | 1, _ => rfl
  | 2, _ => rfl
  | 3, _ => rfl
theorem spL_dec {xs : List Int} {p c k : Nat} (h4 : xs.length ≤ 4) (hk : k < xs.length) (h : 0 < bgN xs k) : (spL xs p c).dec (k : Int) = spL (lessL xs k) p c := by
  match xs, k, h4, hk with
  | [a], 0, _, _ => simp [spL, Sp.dec, bgN, lessL] at h ⊢; try omega
  | [a, b], 0, _, _ => simp [spL, Sp.dec, bgN, lessL] at h ⊢; try omega
  | [a, b], 1, _, _ => simp [spL, Sp.dec, bgN, lessL] at h ⊢; try omega
  | [a, b, d], 0, _, _ => simp [spL, Sp.dec, bgN, lessL] at h ⊢; try omega
  | [a, b, d], 1, _, _ => simp [spL, Sp.dec, bgN, lessL] at h ⊢; try omega
  | [a, b, d], 2, _, _ => simp [spL, Sp.dec, bgN, lessL] at h ⊢; try omega
  | [a, b, d, e], 0, _, _ => simp [spL, Sp.dec, bgN, lessL] at h ⊢; try omega
  | [a, b, d, e], 1, _, _ => simp [spL, Sp.dec, bgN, lessL] at h ⊢; try omega
  | [a, b, d, e], 2, _, _ => simp [spL, Sp.dec, bgN, lessL] at h ⊢; try omega
  | [a, b, d, e], 3, _, _ => simp [spL, Sp.dec, bgN, lessL] at h ⊢; try omega
theorem spL_coin {R : Nat} {N C xs : List Int} {p c k : Nat} (h4 : xs.length ≤ 4) (hk : k < xs.length) (h : 0 < bgN xs k) :
    coinS R N C (spL xs p c) (k : Int) = spL (lessL xs k) ((p + cw C k) % R) (c + gv R N p (cw C k)) := by
  unfold coinS
  rw [spL_dec h4 hk h]
  rfl
theorem spL_sel {xs : List Int} {p c : Nat} : selS (spL xs p c) = spL xs 0 (c - 1) := rfl
theorem sum_set : ∀ (xs : List Int) (k : Nat) (x : Int), k < xs.length → (xs.set k x).sum = xs.sum - xs.getD k 0 + x
  | [], _, _, h => by simp at h
  | y :: ys, 0, x, _ => by simp [List.set, List.getD]; omega
  | y :: ys, k + 1, x, h => by
    have := sum_set ys k x (by simpa using h)
    simp [List.set, List.getD] at this ⊢
    omega
theorem okP_less {C xs : List Int} {k : Nat} (ho : okP C xs = true) (hk : k < xs.length) (h : 0 < bgN xs k) : okP C (lessL xs k) = true := by
  obtain ⟨o1, o2, o3⟩ := okP_mem ho
  have hg : xs.getD k 0 = xs[k] := by simp [List.getD, hk]
  have hm := o2 _ (List.getElem_mem hk)
  have hs := sum_set xs k (xs.getD k 0 - 1) hk
  unfold bgN at h
  unfold okP lessL
  rw [Bool.and_eq_true, Bool.and_eq_true, decide_eq_true_eq, decide_eq_true_eq, List.length_set, hs, List.all_eq_true]
  refine ⟨o1, fun y hy => ?_, by omega⟩
  rw [inR_iff]
  rcases List.mem_or_eq_of_mem_set hy with hy | rfl
  · exact o2 y hy
  · omega
end Go.Proofs.Ytmkmnedojgigoaa
