import Derived.Test.YteianfbdhakhpaaTJ
import Derived.Test.YteianfbdhakhpaaS2
/-! The order of lists: slices.Compare at numbers, the closure of Lists. -/
namespace Go.Proofs.Yteianfbdhakhpaa
set_option linter.unusedSimpArgs false
set_option linter.unusedVariables false
open Go Go.RowKit Go.Sort

/-- slices.Compare's order. -/
def cmpL : List Int → List Int → Int
  | [], [] => 0
  | [], _ :: _ => -1
  | _ :: _, [] => 1
  | x :: xs, y :: ys => if cmpI x y = 0 then cmpL xs ys else cmpI x y
theorem cmpI_cases (x y : Int) : (x < y ∧ cmpI x y = -1) ∨ (x = y ∧ cmpI x y = 0) ∨ (y < x ∧ cmpI x y = 1) := by
  unfold cmpI
  by_cases h1 : x < y
  · exact .inl ⟨h1, by rw [if_pos h1]⟩
  · by_cases h2 : y < x
    · exact .inr (.inr ⟨h2, by rw [if_neg h1, if_pos h2]⟩)
    · exact .inr (.inl ⟨by omega, by rw [if_neg h1, if_neg h2]⟩)
theorem cmpI_zero {x y : Int} : cmpI x y = 0 ↔ x = y := by
  rcases cmpI_cases x y with h | h | h <;> (constructor <;> intro h2 <;> omega)
theorem cmpI_swap (x y : Int) : cmpI y x = - cmpI x y := by
  rcases cmpI_cases x y with h | h | h <;> rcases cmpI_cases y x with h2 | h2 | h2 <;> omega
theorem cmpL_cons (x y : Int) (xs ys : List Int) : cmpL (x :: xs) (y :: ys) = if cmpI x y = 0 then cmpL xs ys else cmpI x y := rfl
theorem cmpL_swap : ∀ a b : List Int, cmpL b a = - cmpL a b
  | [], [] => rfl
  | [], _ :: _ => rfl
  | _ :: _, [] => rfl
  | x :: xs, y :: ys => by
    rw [cmpL_cons, cmpL_cons, cmpI_swap x y, cmpL_swap xs ys]
    by_cases h : cmpI x y = 0
    · rw [if_pos h, if_pos (by omega)]
    · rw [if_neg h, if_neg (by omega)]
theorem cmpL_zero : ∀ a b : List Int, cmpL a b = 0 ↔ a = b
  | [], [] => by simp [cmpL]
  | [], _ :: _ => by simp [cmpL]
  | _ :: _, [] => by simp [cmpL]
  | x :: xs, y :: ys => by
    rw [cmpL_cons]
    by_cases h : cmpI x y = 0
    · rw [if_pos h, cmpL_zero xs ys, cmpI_zero.1 h]; simp
    · rw [if_neg h]
      constructor
      · intro h2; exact absurd h2 h
      · intro h2; injection h2 with h2 h3; exact absurd (cmpI_zero.2 h2) h
theorem cmpL_trans : ∀ a b c : List Int, cmpL a b < 0 → cmpL b c < 0 → cmpL a c < 0
  | [], [], _, h, _ => by simp [cmpL] at h
  | [], _ :: _, [], _, h => by simp [cmpL] at h
  | [], _ :: _, _ :: _, _, _ => by simp [cmpL]
  | _ :: _, [], _, h, _ => by simp [cmpL] at h
  | _ :: _, _ :: _, [], _, h => by simp [cmpL] at h
  | x :: xs, y :: ys, z :: zs, h1, h2 => by
    rw [cmpL_cons] at h1 h2 ⊢
    have ih := cmpL_trans xs ys zs
    rcases cmpI_cases x y with p | p | p <;> rcases cmpI_cases y z with q | q | q <;> rcases cmpI_cases x z with r | r | r <;>
      (simp only [p.2, q.2, r.2] at h1 h2 ⊢) <;> (first | omega | (simp at h1 h2 ⊢; done) | (simp at h1 h2 ⊢; exact ih h1 h2) | (simp at h1 h2 ⊢; omega))
theorem cmpL_swo {α : Type} (f : α → List Int) : SWO (ltOf fun x y : α => cmpL (f x) (f y)) where
  irrefl x := by simp [ltOf, (cmpL_zero (f x) (f x)).2 rfl]
  trans x y z h1 h2 := by
    simp only [ltOf, decide_eq_true_eq] at *
    exact cmpL_trans _ _ _ h1 h2
  ntrans x y z h1 h2 := by
    simp only [ltOf, decide_eq_false_iff_not] at *
    intro h
    by_cases e : cmpL (f x) (f y) = 0
    · rw [(cmpL_zero _ _).1 e] at h; exact h2 h
    · have h3 : cmpL (f y) (f x) < 0 := by rw [cmpL_swap]; omega
      exact h2 (cmpL_trans _ _ _ h3 h)
set_option maxRecDepth 100000 in
set_option maxHeartbeats 2000000 in
theorem CompareL_any (a b : Option Addr) (ca cb : Nat) (xs ys : List Int) (w : World) (hA : Ints w a xs) (hB : Ints w b ys) : Calls Try.prog 61 #[.slice a xs.length ca, .slice b ys.length cb] w fun e w' => e = .returned (.int .i64 (cmpL xs ys)) ∧ w = w' := by
  have hlen := hA.len
  have hlen2 := hB.len
  have hc := fun x y => Compare_any x y w
  obtain ⟨n, hn⟩ : ∃ n, n = xs.length := ⟨_, rfl⟩
  obtain ⟨m, hm⟩ : ∃ m, m = ys.length := ⟨_, rfl⟩
  rw [← hn] at hlen ⊢
  rw [← hm] at hlen2 ⊢
  have HN := hid hn
  have HM := hid hm
  clear hn hm
  have HD := hid (show ∀ k, k < n → xs.drop k = xs[k]?.getD 0 :: xs.drop (k + 1) from fun k hk => by
    rw [HN.out] at hk
    rw [List.drop_eq_getElem_cons hk, List.getElem?_eq_getElem hk]; rfl)
  have HE := hid (show ∀ k, k < m → ys.drop k = ys[k]?.getD 0 :: ys.drop (k + 1) from fun k hk => by
    rw [HM.out] at hk
    rw [List.drop_eq_getElem_cons hk, List.getElem?_eq_getElem hk]; rfl)
  obtain ⟨R, hR⟩ : ∃ R, R = cmpL xs ys := ⟨_, rfl⟩
  rw [← hR]
  have HR0 := hid (show R = cmpL (xs.drop 0) (ys.drop 0) from hR)
  clear hR
  go_enter Try.func61, Try.ntmps61
  go_wp2
  go_loopw [5, 6, 7, 8, 11] (fun v5 v6 v7 v8 v11 wr => ∃ k : Nat, k ≤ n ∧ k ≤ m ∧ v11 = .int .i64 (k : Int) ∧ Hid (R = cmpL (xs.drop k) (ys.drop k)) ∧ wr = w) (fun _ _ _ _ v11 _ => n - (intOf v11).toNat)
  case atStart => exact ⟨0, Nat.zero_le _, Nat.zero_le _, rfl, HR0, rfl⟩
  case round =>
    obtain ⟨k, hk, hkm, rfl, HA, rfl⟩ := hrel
    by_cases hlt : k < n
    · obtain ⟨b1, o1, x, rfl, hbl, hc1, hx1, hx2, hg, _⟩ := hA.at (k := k) (by rw [← HN.out]; exact hlt)
      have hkI : (k : Int) < n := by omega
      have hk0 : (0 : Int) ≤ (k : Int) := by omega
      by_cases hlm : k < m
      · obtain ⟨b2, o2, y, rfl, hbl2, hc2, hy1, hy2, hg2, _⟩ := hB.at (k := k) (by rw [← HM.out]; exact hlm)
        have hkM : ¬ (k : Int) ≥ (m : Int) := by omega
        have hkM2 : (k : Int) < (m : Int) := by omega
        have hst := HA.out
        rw [HD.out k hlt, HE.out k hlm, hg.out, hg2.out] at hst
        replace hst : R = if cmpI x y = 0 then cmpL (xs.drop (k + 1)) (ys.drop (k + 1)) else cmpI x y := hst
        have hcc := hc x y
        rcases cmpI_cases x y with hh | hh | hh
        · rw [hh.2] at hcc hst
          have HR := hid (show R = -1 from hst)
          clear hh hg hg2 hst
          go_wp2_with fail
          refine hcc.mono ?_
          rintro e V1 ⟨rfl, rfl⟩
          go_wp2
          go_ret
          exact ⟨ret_int HR.out.symm, rfl⟩
        · rw [hh.2] at hcc hst
          have HR := hid (show R = cmpL (xs.drop (k + 1)) (ys.drop (k + 1)) from hst)
          clear hh hg hg2 hst
          go_wp2_with fail
          refine hcc.mono ?_
          rintro e V1 ⟨rfl, rfl⟩
          go_wp2
          go_roundw
          case rel => exact ⟨k + 1, by omega, by omega, by simp, HR, trivial⟩
          case measure => simp [intOf]; omega
        · rw [hh.2] at hcc hst
          have HR := hid (show R = 1 from hst)
          clear hh hg hg2 hst
          go_wp2_with fail
          refine hcc.mono ?_
          rintro e V1 ⟨rfl, rfl⟩
          go_wp2
          go_ret
          exact ⟨ret_int HR.out.symm, rfl⟩
      · have hkM : (k : Int) ≥ (m : Int) := by omega
        have hst := HA.out
        rw [HD.out k hlt, List.drop_eq_nil_iff.2 (show ys.length ≤ k by rw [← HM.out]; omega)] at hst
        have HR := hid (show R = 1 from hst)
        clear hg hst
        go_wp2
        go_ret
        exact ⟨ret_int HR.out.symm, rfl⟩
    · obtain rfl : k = n := by omega
      have hst := HA.out
      rw [List.drop_eq_nil_iff.2 (show xs.length ≤ k by rw [← HN.out]; exact Nat.le_refl _)] at hst
      by_cases hlm : k < m
      · rw [HE.out k hlm] at hst
        have HR := hid (show R = -1 from hst)
        have hkM : (k : Int) < (m : Int) := by omega
        clear hst
        go_wp2
        go_ret
        exact ⟨ret_int HR.out.symm, rfl⟩
      · rw [List.drop_eq_nil_iff.2 (show ys.length ≤ k by rw [← HM.out]; omega)] at hst
        have HR := hid (show R = 0 from hst)
        have hkM : ¬ (k : Int) < (m : Int) := by omega
        clear hst
        go_wp2
        go_ret
        exact ⟨ret_int HR.out.symm, rfl⟩
/-- A reading as it lies in memory. -/
structure Rq where
  a1 : Option Addr
  n1 : Nat
  c1 : Nat
  a2 : Option Addr
  c2 : Nat
  l : List Int
def Rq.enc (q : Rq) : List Value := [.slice q.a1 q.n1 q.c1, .slice q.a2 q.l.length q.c2]
/-- Its list is read, and lies in no cell of the block. -/
def Rgd (w : World) (blk : Nat) (q : Rq) : Prop := Iz 0 w q.a2 q.l ∧ ∀ ad, q.a2 = some ad → ad.block ≠ blk
def Rs (w : World) (blk : Nat) : Type := { q : Rq // Rgd w blk q }
instance (w : World) (blk : Nat) : Inhabited (Rs w blk) := ⟨⟨⟨none, 0, 0, none, 0, []⟩, Iz.none_ 0 w, fun _ e => nomatch e⟩⟩
def Rs.enc {w : World} {blk : Nat} (q : Rs w blk) : List Value := q.1.enc
set_option maxRecDepth 100000 in
set_option maxHeartbeats 2000000 in
theorem Lists1_any (x y : Rq) (W : World) (hx : Ints W x.a2 x.l) (hy : Ints W y.a2 y.l) : Calls Try.prog 60 #[.agg x.enc.toArray, .agg y.enc.toArray] W fun e w' => e = .returned (.int .i64 (cmpL x.l y.l)) ∧ ∃ q os', w' = grow (W.drewN q) os' := by
  obtain ⟨a1, n1, c1, a2, c2, l⟩ := x
  obtain ⟨b1, m1, d1, b2, d2, l'⟩ := y
  have hb1 := below_one (w := W) (.cells #[.slice a1 n1 c1, .slice a2 l.length c2] 62)
  have hb2 := below_one (w := W.alloc (.cells #[.slice a1 n1 c1, .slice a2 l.length c2] 62)) (.cells #[.slice b1 m1 d1, .slice b2 l'.length d2] 62)
  have hb := hb1.trans (hb2.mono hb1.size)
  have hc := CompareL_any a2 b2 c2 d2 l l' _ (hx.below hb (Nat.le_refl _)) (hy.below hb (Nat.le_refl _))
  simp only [Rq.enc]
  generalize cmpL l l' = r at *
  generalize l.length = n2 at *
  generalize l'.length = m2 at *
  clear hb hb1 hb2 hx hy
  go_enter Try.func60, Try.ntmps60
  go_wp2_with fail
  refine hc.mono ?_
  rintro e V1 ⟨rfl, rfl⟩
  go_wp2
  go_ret
  exact ⟨rfl, 0, _, by rw [alloc_eq_grow, alloc_eq_grow, grow_grow]; rfl⟩
end Go.Proofs.Yteianfbdhakhpaa
