import Derived.Test.YteianfbdhakhpaaM4
import Derived.Test.YteianfbdhakhpaaV1
import Derived.Test.YteianfbdhakhpaaTZ
import Derived.Test.YteianfbdhakhpaaTD
/-! One more pulse. -/
namespace Go.Proofs.Yteianfbdhakhpaa
set_option linter.unusedSimpArgs false
set_option linter.unusedVariables false
open Go Go.RowKit

theorem risF_iff {e : Nat} : ∀ (l : List Int) (low : Nat), risF e low l ↔ (∀ x ∈ l, (low : Int) ≤ x ∧ x < (e : Int)) ∧ l.Pairwise (· < ·)
  | [], low => by simp [risF]
  | x :: r, low => by
    show (∃ n : Nat, x = (n : Int) ∧ low ≤ n ∧ n < e ∧ risF e (n + 1) r) ↔ _
    rw [List.pairwise_cons]
    constructor
    · rintro ⟨n, rfl, h1, h2, h3⟩
      obtain ⟨h4, h5⟩ := (risF_iff r (n + 1)).1 h3
      refine ⟨fun y hy => ?_, fun y hy => by have := h4 y hy; omega, h5⟩
      rcases List.mem_cons.1 hy with rfl | hy
      · omega
      · have := h4 y hy; omega
    · rintro ⟨h1, h2, h3⟩
      have hx := h1 x (by simp)
      refine ⟨x.toNat, by omega, by omega, by omega, (risF_iff r _).2 ⟨fun y hy => ?_, h3⟩⟩
      have := h1 y (by simp [hy])
      have := h2 y hy
      omega
theorem woA_app (sp : List Int) : ∀ (a b : List Int) (k : Nat), woA sp k (a ++ b) = woA sp k a ++ woA sp (k + a.length) b
  | [], b, k => by simp [woA]
  | x :: a, b, k => by
    rw [List.cons_append, woA, woA, woA_app sp a b (k + 1), List.length_cons, show k + (a.length + 1) = k + 1 + a.length by omega]
    split <;> simp
theorem woA_cong {sp sp' : List Int} : ∀ (ts : List Int) (k k' : Nat), (∀ j, j < ts.length → inL ((k + j : Nat) : Int) sp = inL ((k' + j : Nat) : Int) sp') → woA sp k ts = woA sp' k' ts
  | [], _, _, _ => rfl
  | x :: ts, k, k', h => by
    have h0 := h 0 (by simp)
    rw [Nat.add_zero, Nat.add_zero] at h0
    rw [woA, woA, h0, woA_cong ts (k + 1) (k' + 1) (fun j hj => by have := h (j + 1) (by simp; omega); rwa [show k + (j + 1) = k + 1 + j by omega, show k' + (j + 1) = k' + 1 + j by omega] at this)]
/-- Numbers of pulses, with one more pulse as number i that is a spark. -/
def insI (i : Nat) (s : List Int) : List Int := s.filter (fun x => decide (x < (i : Int))) ++ (i : Int) :: (s.filter (fun x => !decide (x < (i : Int)))).map (· + 1)
theorem filter_two (p : Int → Bool) : ∀ s : List Int, (s.filter p).length + (s.filter (fun x => !p x)).length = s.length
  | [] => rfl
  | x :: s => by
    have ih := filter_two p s
    cases h : p x <;> simp [h] <;> omega
theorem insI_len (i : Nat) (s : List Int) : (insI i s).length = s.length + 1 := by
  unfold insI
  rw [List.length_append, List.length_cons, List.length_map]
  have := filter_two (fun x => decide (x < (i : Int))) s
  omega
theorem insI_mem {i : Nat} {s : List Int} {x : Int} : x ∈ insI i s ↔ (x ∈ s ∧ x < i) ∨ x = i ∨ (x - 1 ∈ s ∧ i ≤ x - 1) := by
  unfold insI
  simp only [List.mem_append, List.mem_cons, List.mem_map, List.mem_filter, decide_eq_true_eq, Bool.not_eq_true', decide_eq_false_iff_not]
  constructor
  · rintro (h | h | ⟨y, ⟨h1, h2⟩, rfl⟩)
    · exact .inl h
    · exact .inr (.inl h)
    · exact .inr (.inr ⟨by rwa [show y + 1 - 1 = y by omega], by omega⟩)
  · rintro (h | h | ⟨h1, h2⟩)
    · exact .inl h
    · exact .inr (.inl h)
    · exact .inr (.inr ⟨x - 1, ⟨h1, by omega⟩, by omega⟩)
theorem insI_ris {i e : Nat} {s : List Int} (hi : i ≤ e) (h : risF e 0 s) : risF (e + 1) 0 (insI i s) := by
  rw [risF_iff] at *
  obtain ⟨h1, h2⟩ := h
  refine ⟨fun x hx => ?_, ?_⟩
  · rcases insI_mem.1 hx with ⟨h3, h4⟩ | h3 | ⟨h3, h4⟩
    · have := h1 x h3; omega
    · omega
    · have := h1 _ h3; omega
  · unfold insI
    rw [List.pairwise_append, List.pairwise_cons]
    refine ⟨h2.filter _, ⟨fun y hy => ?_, ?_⟩, fun x hx y hy => ?_⟩
    · obtain ⟨z, hz, rfl⟩ := List.mem_map.1 hy
      have := (List.mem_filter.1 hz).2
      simp at this; omega
    · rw [List.pairwise_map]
      exact (h2.filter _).imp (fun h => by omega)
    · have hx2 := (List.mem_filter.1 hx).2
      simp at hx2
      rcases List.mem_cons.1 hy with rfl | hy
      · exact hx2
      · obtain ⟨z, hz, rfl⟩ := List.mem_map.1 hy
        have := (List.mem_filter.1 hz).2
        simp at this; omega
theorem insI_wo {A B : List Int} {t : Int} {s : List Int} : woL (A ++ t :: B) (insI A.length s) = woL (A ++ B) s := by
  unfold woL
  rw [woA_app, woA_app, Nat.zero_add, woA]
  have e : inL (A.length : Int) (insI A.length s) = true := by
    simp only [inL, List.any_eq_true, beq_iff_eq]
    exact ⟨_, insI_mem.2 (.inr (.inl rfl)), rfl⟩
  have hmem : ∀ (x : Int) (l : List Int), inL x l = true ↔ x ∈ l := fun x l => by simp [inL]
  have hb : ∀ (x y : Int) (l l' : List Int), (x ∈ l ↔ y ∈ l') → inL x l = inL y l' := fun x y l l' h => by
    rw [Bool.eq_iff_iff, hmem, hmem]; exact h
  rw [if_pos e]
  congr 1
  · refine woA_cong A 0 0 fun j hj => hb _ _ _ _ ?_
    rw [insI_mem]
    constructor
    · rintro (h | h | h)
      · exact h.1
      · omega
      · omega
    · intro h
      exact .inl ⟨h, by omega⟩
  · refine woA_cong B _ _ fun j hj => hb _ _ _ _ ?_
    rw [insI_mem, show (((A.length + 1 + j : Nat) : Int) - 1) = ((A.length + j : Nat) : Int) by omega]
    constructor
    · rintro (h | h | h)
      · omega
      · omega
      · exact h.1
    · intro h
      exact .inr (.inr ⟨h, by omega⟩)
/-- With one more pulse there is at most one more spark. -/
theorem one_more {X : Pu} {A B : List Int} {t : Int} (hts : X.ts = A ++ B) (h : fewX X < 3) : fewX (X.wt (A ++ t :: B)) ≤ fewX X + 1 := by
  have h0 : fewX X ≤ fewX X := Nat.le_refl _
  unfold fewX at h0
  rw [fewM_iff (show fewM (rdL X 3) < 4 by unfold fewX at h; omega)] at h0
  obtain ⟨r, hr, hl⟩ := h0
  obtain ⟨_, h2, h3⟩ := rdL_iff.1 hr
  have hl' : r.1.length ≤ fewX X := hl
  show fewM (rdL (X.wt (A ++ t :: B)) 3) ≤ _
  rw [fewM_iff (by omega)]
  refine ⟨(insI A.length r.1, r.2), rdL_iff.2 ⟨by show (insI A.length r.1).length ≤ 3; rw [insI_len]; omega, ?_, ?_⟩, by show (insI A.length r.1).length ≤ _; rw [insI_len]; omega⟩
  · show risF (A ++ t :: B).length 0 _
    rw [show (A ++ t :: B).length = X.ts.length + 1 by rw [hts]; simp; omega]
    exact insI_ris (by rw [hts]; simp) h2
  · show lof (X.wt (A ++ t :: B)) (woL (A ++ t :: B) (insI A.length r.1)) = _
    rw [lof_wt, insI_wo, ← hts]
    exact h3
end Go.Proofs.Yteianfbdhakhpaa
/-! The specification's Less, Count, IsReading. -/
namespace Go.Proofs.Yteianfbdhakhpaa
set_option linter.unusedSimpArgs false
set_option linter.unusedVariables false
open Go Go.RowKit
theorem woA_one (sp : List Int) (k : Nat) (y : Int) : woA sp k [y] = if inL (k : Int) sp then [] else [y] := by
  simp only [woA]
theorem wo_take {sp ts : List Int} {k : Nat} {y : Int} (hy : ts[k]? = some y) : woA sp 0 (ts.take (k + 1)) = woA sp 0 (ts.take k) ++ if inL (k : Int) sp then [] else [y] := by
  have hl := (List.getElem?_eq_some_iff.1 hy).1
  rw [List.take_add_one, hy]
  show woA sp 0 (ts.take k ++ [y]) = _
  rw [woA_app, List.length_take, Nat.min_eq_left (by omega), Nat.zero_add, woA_one]
set_option maxRecDepth 100000 in
set_option maxHeartbeats 4000000 in
theorem Less_any (a a2 : Option Addr) (c c2 : Nat) (ts sp : List Int) (w : World) (hI : Ints w a ts) (hS : Ints w a2 sp) (h40 : ts.length ≤ 40) : Calls Try.prog 41 #[.slice a ts.length c, .slice a2 sp.length c2] w fun e w' => Below w.heap.size w w' ∧ ∃ (a' : Option Addr) (c' : Nat), e = .returned (.slice a' (woL ts sp).length c') ∧ Iz w.heap.size w' a' (woL ts sp) := by
  obtain ⟨j0, hj0, jz0, jz1, jz2⟩ := info_parts info3i
  have hin := fun x V h => In_any a2 c2 sp x V h
  have HS := hid (show ∀ k y, ts[k]? = some y → woA sp 0 (ts.take (k + 1)) = _ from fun k y h => wo_take h)
  have HE := hid (show woA sp 0 (ts.take ts.length) = woL ts sp by rw [List.take_length]; rfl)
  have HRG := hid (show ∀ x ∈ woL ts sp, -9223372036854775808 ≤ x ∧ x ≤ 9223372036854775807 from fun x hx => hI.2.1 x (woA_mem _ _ _ x hx))
  have HRL := hid (show (woL ts sp).length ≤ ts.length from woA_len _ _ _)
  have HKL := hid (show ∀ k, k ≤ ts.length → (woA sp 0 (ts.take k)).length ≤ k from fun k hk => by have := woA_len sp (ts.take k) 0; rw [List.length_take] at this; omega)
  generalize hO : woL ts sp = O at *
  generalize hn : ts.length = n at *
  have HN := hid hn.symm
  clear hn hO
  generalize sp.length = m at *
  go_enter Try.func41, Try.ntmps41
  go_wp2
  go_loopw [5, 6] (fun v5 v6 wr => ∃ (k p : Nat) (a1 : Option Addr) (c1 : Nat) (L : List Int), k ≤ n ∧ v6 = .int .i64 (k : Int) ∧ v5 = .slice a1 p c1 ∧ p ≤ k ∧ Hid (L = woA sp 0 (ts.take k) ∧ p = L.length) ∧ wr.ownsRow w.heap.size 3 1 (.slice a1 p c1) p (L.map (Value.int .i64)) ∧ Below w.heap.size w wr) (fun _ v6 _ => n - (intOf v6).toNat)
  case atStart => exact ⟨0, 0, none, 0, [], Nat.zero_le _, rfl, rfl, Nat.le_refl _, hid ⟨rfl, rfl⟩, World.ownsRow_nil _ _ _ _, Below.refl _ _⟩
  case round =>
    obtain ⟨k, p, a1, c1, L, hk, rfl, rfl, hpk, HL, hown, hb⟩ := hrel
    by_cases hlt : k < n
    · have hI2 := hI.below hb (Nat.le_refl _)
      obtain ⟨b, off, y, rfl, hbl, hc, hy1, hy2, hg, _⟩ := hI2.at (k := k) (by rw [← HN.out]; exact hlt)
      have hS2 := hS.below hb (Nat.le_refl _)
      have hkI : (k : Int) < n := by omega
      have hk0 : (0 : Int) ≤ (k : Int) := by omega
      have hin2 := hin (k : Int) _ hS2
      have hst := HS.out k y hg.out
      have hcl : ClB wr b (off + k) (.int .i64 y) := ⟨hc, hbl⟩
      clear hc hI2 hS2
      cases hi : inL (k : Int) sp with
      | true =>
        rw [hi] at hin2 hst
        simp only [if_true, List.append_nil] at hst
        have HL2 := hid (show L = woA sp 0 (ts.take (k + 1)) ∧ p = L.length from ⟨HL.out.1.trans hst.symm, HL.out.2⟩)
        clear hst
        go_wp2_with fail
        refine hin2.mono ?_
        rintro e V1 ⟨rfl, hV⟩
        subst hV
        clear hin2
        go_wp2
        go_roundw
        case rel => exact ⟨k + 1, p, a1, c1, L, by omega, by go_num, rfl, by omega, HL2, hown, hb⟩
        case measure => simp [intOf]; omega
      | false =>
        rw [hi] at hin2 hst
        simp only [Bool.false_eq_true, if_false] at hst
        have HL2 := hid (show L ++ [y] = woA sp 0 (ts.take (k + 1)) ∧ p + 1 = (L ++ [y]).length from ⟨by rw [hst, HL.out.1], by rw [List.length_append, HL.out.2]; rfl⟩)
        clear hst
        go_wp2_with fail
        refine hin2.mono ?_
        rintro e V1 ⟨rfl, hV⟩
        subst hV
        clear hin2
        have hc := hcl.1
        have hw0 := hb.size
        go_wp2_with (at_builtin; go_loud (refine wpList_append_own _ rfl _ _ 22 rfl w.heap.size 3 j0 (.int .i64 0) 1 8 under22 hj0 jz0 jz1 jz2 rfl (by decide) (.slice a1 p c1) p _ rfl (hown.alloc _) ⟨wr.heap.size, 0, none⟩ 1 1 [.int .i64 y] rfl rfl (cell_one_new _ _ _) (ints_oneCell .i64 [y]) (by unfold maxLen; omega) (by omega) (by simp; omega) ?_); intro v9 W9 hrow9 hg9 _)
        obtain ⟨a9, c9, rfl⟩ := own_slice2 hrow9
        have hba := below_one (w := wr) (.cells #[.int .i64 y] 3)
        have hb3 : Below w.heap.size w W9 := (hb.trans (hba.mono hb.size)).grown hg9 (by have := hb.size; simp; omega) (own_ge hown)
        have hrow10 : W9.ownsRow w.heap.size 3 1 (.slice a9 (p + 1) c9) (p + 1) ((L ++ [y]).map (Value.int .i64)) := by simpa using hrow9
        clear hown hg9 hrow9 hb hba hc hcl
        go_wp2
        go_roundw
        case rel => exact ⟨k + 1, p + 1, a9, c9, L ++ [y], by omega, by go_num, rfl, by omega, HL2, hrow10, hb3⟩
        case measure => simp [intOf]; omega
    · obtain rfl : k = n := by omega
      have hL : L = O := by
        have h1 := HL.out.1
        have h2 := HE.out
        rw [h2] at h1
        exact h1
      subst hL
      have hp := HL.out.2
      subst hp
      have hz := own_nw hown rfl (by have := HRL.out; omega) HRG.out
      go_wp2
      go_ret
      exact ⟨hb, a1, ⟨c1, rfl⟩, hz.1⟩
set_option maxRecDepth 100000 in
set_option maxHeartbeats 3000000 in
theorem Count_any (a : Option Addr) (c : Nat) (l : List Int) (s : Int) (w : World) (hI : Ints w a l) : Calls Try.prog 45 #[.slice a l.length c, .int .i64 s] w fun e w' => e = .returned (.int .i64 (cntF (fun x => x == s) l : Int)) ∧ Below w.heap.size w w' := by
  have hlen := hI.len
  have HC := hid (show cntF (fun x => x == s) (l.take l.length) = cntF (fun x => x == s) l by rw [List.take_length])
  have HCL := hid (show ∀ k, cntF (fun x => x == s) (l.take k) ≤ k from fun k => by
    have h1 : ((l.take k).filter (fun x => x == s)).length ≤ (l.take k).length := List.length_filter_le _ _
    rw [List.length_take] at h1
    show ((l.take k).filter (fun x => x == s)).length ≤ k
    omega)
  generalize hr : cntF (fun x => x == s) l = r at *
  obtain ⟨n, hn⟩ : ∃ n, n = l.length := ⟨_, rfl⟩
  rw [← hn] at hlen HC ⊢
  have HN := hid hn
  clear hn hr
  go_enter Try.func45, Try.ntmps45
  go_wp2
  go_loopw [5, 6] (fun v5 v6 wr => ∃ k q : Nat, k ≤ n ∧ q ≤ k ∧ v6 = .int .i64 (k : Int) ∧ v5 = .int .i64 (q : Int) ∧ Hid (q = cntF (fun x => x == s) (l.take k)) ∧ Below w.heap.size w wr) (fun _ v6 _ => n - (intOf v6).toNat)
  case atStart => exact ⟨0, 0, Nat.zero_le _, Nat.le_refl _, rfl, rfl, hid rfl, Below.refl _ _⟩
  case round =>
    obtain ⟨k, q, hk, hq, rfl, rfl, HQ, hb⟩ := hrel
    by_cases hlt : k < n
    · obtain ⟨b, off, y, rfl, hbl, hc, hy1, hy2, hg, _⟩ := (hI.below hb (Nat.le_refl _)).at (k := k) (by rw [← HN.out]; exact hlt)
      have hkI : (k : Int) < n := by omega
      have hk0 : (0 : Int) ≤ (k : Int) := by omega
      have hst : cntF (fun x => x == s) (l.take (k + 1)) = cntF (fun x => x == s) (l.take k) + if y == s then 1 else 0 := by
        rw [List.take_add_one, hg.out]
        unfold cntF
        rw [List.filter_append, List.length_append]
        cases hys : y == s <;> simp [hys]
      rw [← HQ.out] at hst
      cases hys : y == s with
      | true =>
        rw [hys] at hst
        have HQ2 := hid (show q + 1 = cntF (fun x => x == s) (l.take (k + 1)) from hst.symm)
        clear hst hg
        go_wp2
        go_roundw
        case rel => exact ⟨k + 1, q + 1, by omega, by omega, by go_num, by go_num, HQ2, hb⟩
        case measure => simp [intOf]; omega
      | false =>
        rw [hys] at hst
        have HQ2 := hid (show q = cntF (fun x => x == s) (l.take (k + 1)) from hst.symm)
        clear hst hg
        go_wp2
        go_roundw
        case rel => exact ⟨k + 1, q, by omega, by omega, by go_num, rfl, HQ2, hb⟩
        case measure => simp [intOf]; omega
    · obtain rfl : k = n := by omega
      have hqr : q = r := HQ.out.trans HC.out
      subst hqr
      go_wp2
      go_ret
      exact ⟨rfl, hb⟩
end Go.Proofs.Yteianfbdhakhpaa
/-! What is written, read: the laws. -/
namespace Go.Proofs.Yteianfbdhakhpaa
set_option linter.unusedSimpArgs false
set_option linter.unusedVariables false
open Go Go.RowKit

theorem accL_next : ∀ (ds : List Int) (t : Int) (i : Nat) (y z : Int), (accL t ds)[i]? = some y → (accL t ds)[i + 1]? = some z → ∃ d ∈ ds, z = y + d
  | [], t, i, y, z, h, _ => by simp [accL] at h
  | d :: ds, t, 0, y, z, h, h2 => by
    cases ds with
    | nil => simp [accL] at h2
    | cons e r =>
      simp [accL] at h h2
      exact ⟨e, by simp, by omega⟩
  | d :: ds, t, i + 1, y, z, h, h2 => by
    have e : accL t (d :: ds) = (t + d) :: accL (t + d) ds := rfl
    rw [e, List.getElem?_cons_succ] at h h2
    obtain ⟨q, hq, hz⟩ := accL_next ds (t + d) i y z h h2
    exact ⟨q, by simp [hq], hz⟩
theorem ris_of {lo hi : Int} {l : List Int} (h1 : ∀ x ∈ l, lo ≤ x ∧ x ≤ hi) (h2 : ∀ i y z, l[i]? = some y → l[i + 1]? = some z → y < z) : risB lo hi l = true := by
  unfold risB
  rw [List.all_eq_true]
  intro i hi
  have hi := List.mem_range.1 hi
  have e : l.getD i 0 = l[i] := by simp [List.getD, hi]
  unfold risOk
  rw [Bool.and_eq_true, fromI_iff, e]
  refine ⟨h1 _ (List.getElem_mem hi), ?_⟩
  rcases i with _ | j
  · simp
  · have e2 : l.getD (j + 1 - 1) 0 = l[j] := by simp [List.getD, show j < l.length by omega]
    rw [e2, Bool.or_eq_true, decide_eq_true_eq, decide_eq_true_eq]
    exact .inr (h2 j _ _ (List.getElem?_eq_getElem (by omega)) (List.getElem?_eq_getElem hi))
theorem dsL_pos {X : Pu} (ok : POk X) (s : Int) : ∀ d ∈ dsL X s, 0 < d := fun d hd => by
  have hp := ok.pi; have hs := ok.sl; have hg := ok.ga; have ha := ok.pa
  rw [dsL_rst] at hd
  simp only [rst, List.mem_append, List.mem_replicate, List.mem_cons] at hd
  rcases hd with rfl | ⟨_, rfl⟩ | rfl | ⟨_, rfl⟩ <;> omega
/-- The train of what is written, without sparks. -/
def Pu.wr (X : Pu) (L : List Int) (t : Int) : Pu := ⟨X.l, X.n, X.pi, X.sl, X.ga, X.pa, 0, wrtL X L t⟩
theorem wr_valid {X : Pu} (hv : vB X = true) {L : List Int} {t : Int} (hb : wrB X L t = true) : vB (X.wr L t) = true := by
  have ok := (vB_ok hv).1
  rw [vB_iff] at *
  obtain ⟨h1, h2, h3, h4, h5, h6, h7, h8⟩ := hv
  unfold wrB at hb
  rw [Bool.and_eq_true, decide_eq_true_eq, decide_eq_true_eq] at hb
  refine ⟨h1, h2, h3, h4, h5, h6, by show 0 ≤ (0 : Int) ∧ (0 : Int) ≤ 3; omega, hb.1, ?_⟩
  refine ris_of (fun x hx => fromI_iff.1 (cntF_all hb.2 x hx)) (fun i y z hy hz => ?_)
  obtain ⟨d, hd, rfl⟩ := accL_next _ _ _ _ _ hy hz
  unfold alD at hd
  obtain ⟨s, _, hs⟩ := List.mem_flatMap.1 hd
  have := dsL_pos ok s d hs
  omega
theorem lof_wr (X : Pu) (L : List Int) (t : Int) (ts : List Int) : lof (X.wr L t) ts = lof X ts := by
  have := lof_wt (X.at 0) (wrtL X L t) ts
  rw [show (X.at 0).wt (wrtL X L t) = X.wr L t from rfl] at this
  rw [this]
  exact lofA_at X 0 _ _
theorem RS_wr {X : Pu} (ok : POk X) {L : List Int} (t : Int) (h : ∀ s ∈ L, 0 ≤ s ∧ s < X.l * X.n) : RS (X.wr L t) = [([], L)] := by
  show (setsG (wrtL X L t).length 0 0 []).filterMap (rdO (X.wr L t)) = _
  rw [setsG]
  have e : rdO (X.wr L t) [] = some ([], L) := by
    unfold rdO
    rw [lof_wr, show (X.wr L t).ts = wrtL X L t from rfl]
    unfold woL
    rw [woA_nil, lof_wrt ok t h]
    rfl
  rw [List.filterMap_cons, e]
  rfl
structure WrLaw (X : Pu) (L : List Int) (t : Int) : Prop where
  e : erX (X.wr L t) true = 0
  m : manN (X.wr L t) = 1
  re : rdE (X.wr L t) true = 0
  li : rdLi (X.wr L t) true = L
  so : (soX reB (X.wr L t)).length = (wrtL X L t).length
theorem wr_law {X : Pu} (hv : vB X = true) {L : List Int} {t : Int} (hb : wrB X L t = true) (h : ∀ s ∈ L, 0 ≤ s ∧ s < X.l * X.n) : WrLaw X L t := by
  have ok := (vB_ok hv).1
  have hR := RS_wr ok t h
  have hvY := wr_valid hv hb
  have he : erX (X.wr L t) true = 0 := by
    unfold erX
    rw [hR]
    have hc : chkE (X.wr L t) true = 0 := by unfold chkE; rw [hvY]; rfl
    unfold erO; rw [hc]; simp
  have hre : rdE (X.wr L t) true = 0 := by
    unfold rdE
    rw [if_pos he, hR]
    rw [if_pos]
    simp [sameB, cntR, slB]
  refine ⟨he, ?_, hre, ?_, ?_⟩
  · unfold manN; rw [if_pos he, hR]; rfl
  · unfold rdLi; rw [if_pos hre, hR]; rfl
  · unfold soX; rw [if_pos he, hR]
    unfold soL
    rw [List.length_map, List.filter_eq_self.2 (fun i _ => by simp [reB, cntK, cntR, inL])]
    simp [Pu.wr]
theorem wr_first {X : Pu} {s : Int} {L : List Int} {t : Int} : (wrtL X (s :: L) t)[0]? = some t := by rw [wrtL_cons]; rfl
theorem wr_nil {X : Pu} {L : List Int} {t : Int} : (wrtL X L t).length = 0 ↔ L.length = 0 := by
  cases L with
  | nil => simp [wrtL, alD, accL]
  | cons s L => rw [wrtL_cons]; simp
end Go.Proofs.Yteianfbdhakhpaa
/-! More sparks. -/
namespace Go.Proofs.Yteianfbdhakhpaa
set_option linter.unusedSimpArgs false
set_option linter.unusedVariables false
open Go Go.RowKit

theorem setsG_sub (e : Nat) : ∀ (m low : Nat) (f : List Int), (setsG e m low f).Sublist (setsG e (m + 1) low f)
  | 0, low, f => by
    show [f].Sublist (f :: _)
    exact List.Sublist.cons_cons f (List.nil_sublist _)
  | m + 1, low, f => by
    rw [setsG_succ, setsG_succ]
    refine List.Sublist.append (List.Sublist.refl _) ?_
    unfold setsN
    generalize List.range' low (e - low) = ns
    induction ns with
    | nil => exact List.Sublist.refl _
    | cons n ns ih =>
      rw [List.flatMap_cons, List.flatMap_cons]
      exact List.Sublist.append (setsG_sub e m (n + 1) _) ih
theorem setsG_subs (e low : Nat) (f : List Int) {m k : Nat} (h : m ≤ k) : (setsG e m low f).Sublist (setsG e k low f) := by
  induction k with
  | zero => obtain rfl : m = 0 := by omega
            exact List.Sublist.refl _
  | succ k ih =>
    by_cases he : m = k + 1
    · subst he; exact List.Sublist.refl _
    · exact (ih (by omega)).trans (setsG_sub e k low f)
theorem rdL_subs (X : Pu) {m k : Nat} (h : m ≤ k) : (rdL X m).Sublist (rdL X k) := (setsG_subs _ _ _ h).filterMap _
theorem RS_at_sub {X : Pu} {k : Int} (h : X.sp ≤ k) : (RS X).Sublist (RS (X.at k)) := by
  unfold RS
  rw [rdL_at]
  exact rdL_subs X (show X.sp.toNat ≤ k.toNat by omega)
theorem nodup_len {α : Type} [DecidableEq α] : ∀ (a b : List α), a.Nodup → (∀ x ∈ a, x ∈ b) → a.length ≤ b.length
  | [], _, _, _ => Nat.zero_le _
  | x :: a, b, hn, hs => by
    have hx := hs x (by simp)
    have h1 := List.nodup_cons.1 hn
    have h2 := nodup_len a (b.erase x) h1.2 (fun y hy => by
      have : y ≠ x := fun e => h1.1 (e ▸ hy)
      exact (List.mem_erase_of_ne this).2 (hs y (List.mem_cons_of_mem _ hy)))
    rw [List.length_erase_of_mem hx] at h2
    have : 0 < b.length := List.length_pos_of_mem hx
    rw [List.length_cons]; omega
theorem dN_sub {a b : List (List Int)} (h : ∀ x ∈ a, x ∈ b) : dN a ≤ dN b :=
  nodup_len _ _ (dR_nodup a) (fun x hx => (dR_mem b x).2 (h x ((dR_mem a x).1 hx)))
theorem dN_le (a : List (List Int)) : dN a ≤ a.length := nodup_len _ _ (dR_nodup a) (fun x hx => (dR_mem a x).1 hx)
theorem dN_pos {a : List (List Int)} (h : a ≠ []) : 1 ≤ dN a := by
  obtain ⟨x, hx⟩ := List.exists_mem_of_ne_nil _ h
  exact List.length_pos_of_mem ((dR_mem a x).2 hx)
theorem lowF_iff {s : Int} {rs : List Rd} {k : Nat} : lowF s rs ≤ k ↔ 24 ≤ k ∨ ∃ r ∈ rs, cntF (eqB s) r.2 ≤ k := by
  have hh : ∀ (rs : List Rd) (z : Nat), rs.foldl (fun m r => min m (cntF (eqB s) r.2)) z ≤ k ↔ z ≤ k ∨ ∃ r ∈ rs, cntF (eqB s) r.2 ≤ k := by
    intro rs
    induction rs with
    | nil => intro z; simp
    | cons r rs ih =>
      intro z
      rw [List.foldl_cons, ih]
      simp only [List.mem_cons, exists_eq_or_imp]
      rw [← or_assoc]
      refine or_congr ?_ Iff.rfl
      constructor
      · intro h
        rcases Nat.le_total z (cntF (eqB s) r.2) with h2 | h2
        · rw [Nat.min_eq_left h2] at h; exact .inl h
        · rw [Nat.min_eq_right h2] at h; exact .inr h
      · rintro (h | h)
        · exact Nat.le_trans (Nat.min_le_left _ _) h
        · exact Nat.le_trans (Nat.min_le_right _ _) h
  exact hh rs 24
theorem higF_iff {s : Int} {rs : List Rd} {k : Nat} : higF s rs ≤ k ↔ ∀ r ∈ rs, cntF (eqB s) r.2 ≤ k := by
  have hh : ∀ (rs : List Rd) (z : Nat), rs.foldl (fun m r => max m (cntF (eqB s) r.2)) z ≤ k ↔ z ≤ k ∧ ∀ r ∈ rs, cntF (eqB s) r.2 ≤ k := by
    intro rs
    induction rs with
    | nil => intro z; simp
    | cons r rs ih =>
      intro z
      rw [List.foldl_cons, ih]
      simp only [List.mem_cons, forall_eq_or_imp, Nat.max_le]
      exact and_assoc
  have := hh rs 0
  unfold higF
  rw [this]
  simp
/-- Whether all numbers of a list are in another one. -/
def inAll (a b : List Int) : Bool := a.all fun x => inL x b
theorem inL_mem {x : Int} {l : List Int} : inL x l = true ↔ x ∈ l := by simp [inL]
theorem soL_mem {f : Nat → Nat → Bool} {rs : List Rd} {n : Nat} {x : Int} : x ∈ soL f rs n ↔ ∃ i, i < n ∧ f (cntK rs i) rs.length = true ∧ x = (i : Int) := by
  unfold soL
  simp only [List.mem_map, List.mem_filter, List.mem_range]
  constructor
  · rintro ⟨i, ⟨h1, h2⟩, rfl⟩; exact ⟨i, h1, h2, rfl⟩
  · rintro ⟨i, h1, h2, rfl⟩; exact ⟨i, ⟨h1, h2⟩, rfl⟩
theorem cntK_mono {a b : List Rd} (h : a.Sublist b) (i : Nat) : cntK a i ≤ cntK b i := (h.filter _).length_le
theorem cntK_all {rs : List Rd} {i : Nat} : cntK rs i = rs.length ↔ ∀ r ∈ rs, inL (i : Int) r.1 = true := List.length_filter_eq_length_iff
theorem inAll_iff {a b : List Int} : inAll a b = true ↔ ∀ x ∈ a, x ∈ b := by
  unfold inAll
  rw [List.all_eq_true]
  exact ⟨fun h x hx => inL_mem.1 (h x hx), fun h x hx => inL_mem.2 (h x hx)⟩
structure MoreLaw (X Y : Pu) (s : Int) : Prop where
  e : erX Y true = 0
  m : manN X ≤ manN Y
  l : lsN X ≤ lsN Y
  l1 : 1 ≤ lsN X
  lm : lsN X ≤ manN X
  ae : askE X s = 0
  be : askE Y s = 0
  lo : askLo Y s ≤ askLo X s
  lh : askLo X s ≤ askHi X s
  hi : askHi X s ≤ askHi Y s
  re : inAll (soX reB Y) (soX reB X) = true
  sp : inAll (soX spB Y) (soX spB X) = true
theorem more_law {X : Pu} {k : Int} (hv : vB X = true) (hk : X.sp ≤ k) (hk3 : k ≤ 3) (he : erX X true = 0) {s : Int} (hs : selB X s = true) : MoreLaw X (X.at k) s := by
  have hs0 := (vB_ok hv).2.1
  have hvY := vB_at hv (k := k) (by omega)
  have hsub := RS_at_sub hk
  have hX := erX_few hv
  have hle : (fewX X : Int) ≤ X.sp := Classical.byContradiction fun h => by rw [if_neg h] at hX; omega
  have heY : erX (X.at k) true = 0 := by
    rw [erX_few hvY, fewX_at]; exact if_pos (show (fewX X : Int) ≤ k by omega)
  have hne := (erO_zero he).2.2
  have hne' : RS X ≠ [] := hne
  have hsY : selB (X.at k) s = true := hs
  have hae : askE X s = 0 := by unfold askE; rw [hs]; exact he
  have hbe : askE (X.at k) s = 0 := by unfold askE; rw [hsY]; exact heY
  have h24 := RS_len24 hv
  have hsX : ∀ f, soX f X = soL f (RS X) X.ts.length := fun f => by unfold soX; rw [if_pos he]
  have hsoY : ∀ f, soX f (X.at k) = soL f (RS (X.at k)) X.ts.length := fun f => by unfold soX; rw [if_pos heY]; rfl
  refine ⟨heY, ?_, ?_, ?_, ?_, hae, hbe, ?_, ?_, ?_, ?_, ?_⟩
  · unfold manN; rw [if_pos he, if_pos heY]; exact hsub.length_le
  · unfold lsN; rw [if_pos he, if_pos heY]
    exact dN_sub fun x hx => (hsub.map (·.2)).subset hx
  · unfold lsN; rw [if_pos he]
    exact dN_pos (by simpa using hne')
  · unfold lsN manN; rw [if_pos he, if_pos he]
    exact Nat.le_trans (dN_le _) (by simp)
  · unfold askLo; rw [if_pos hae, if_pos hbe]
    rw [lowF_iff]
    rcases lowF_iff.1 (Nat.le_refl (lowF s (RS X))) with h | ⟨r, hr, h⟩
    · exact .inl h
    · exact .inr ⟨r, hsub.subset hr, h⟩
  · unfold askLo askHi; rw [if_pos hae, if_pos hae]
    obtain ⟨r, hr⟩ := List.exists_mem_of_ne_nil _ hne'
    exact Nat.le_trans (lowF_iff.2 (.inr ⟨r, hr, Nat.le_refl _⟩)) (higF_iff.1 (Nat.le_refl _) r hr)
  · unfold askHi; rw [if_pos hae, if_pos hbe]
    exact higF_iff.2 fun r hr => higF_iff.1 (Nat.le_refl _) r (hsub.subset hr)
  · rw [inAll_iff, hsX, hsoY]
    intro x hx
    obtain ⟨i, h1, h2, rfl⟩ := soL_mem.1 hx
    refine soL_mem.2 ⟨i, h1, ?_, rfl⟩
    have := cntK_mono hsub i
    simp only [reB, decide_eq_true_eq] at h2 ⊢
    omega
  · rw [inAll_iff, hsX, hsoY]
    intro x hx
    obtain ⟨i, h1, h2, rfl⟩ := soL_mem.1 hx
    refine soL_mem.2 ⟨i, h1, ?_, rfl⟩
    simp only [spB, decide_eq_true_eq] at h2 ⊢
    rw [cntK_all] at h2 ⊢
    exact fun r hr => h2 r (hsub.subset hr)
theorem soX_len (f : Nat → Nat → Bool) (X : Pu) : (soX f X).length ≤ X.ts.length := by
  unfold soX
  split
  · exact soL_len _ _ _
  · exact Nat.zero_le _
end Go.Proofs.Yteianfbdhakhpaa
/-! A reading and what it says: the laws. -/
namespace Go.Proofs.Yteianfbdhakhpaa
set_option linter.unusedSimpArgs false
set_option linter.unusedVariables false
open Go Go.RowKit

theorem pair_of_adj {l : List Int} (h : ∀ i y z, l[i]? = some y → l[i + 1]? = some z → y < z) : l.Pairwise (· < ·) := by
  rw [List.pairwise_iff_getElem]
  have key : ∀ d i (h1 : i < l.length) (h2 : i + d + 1 < l.length), l[i] < l[i + d + 1] := by
    intro d
    induction d with
    | zero => intro i h1 h2; exact h i _ _ (List.getElem?_eq_getElem h1) (List.getElem?_eq_getElem h2)
    | succ d ih =>
      intro i h1 h2
      have a := ih i h1 (by omega)
      have b := h (i + d + 1) _ _ (List.getElem?_eq_getElem (by omega)) (List.getElem?_eq_getElem (show i + d + 1 + 1 < l.length by omega))
      have e : l[i + (d + 1) + 1] = l[i + d + 1 + 1] := by congr 1
      rw [e]; omega
  intro i j hi hj hij
  have := key (j - i - 1) i hi (by omega)
  have e : l[i + (j - i - 1) + 1] = l[j] := by congr 1; omega
  rw [e] at this; exact this
theorem adj_of_pair {l : List Int} (h : l.Pairwise (· < ·)) : ∀ i y z, l[i]? = some y → l[i + 1]? = some z → y < z := fun i y z hy hz => by
  obtain ⟨h1, rfl⟩ := List.getElem?_eq_some_iff.1 hy
  obtain ⟨h2, rfl⟩ := List.getElem?_eq_some_iff.1 hz
  exact List.pairwise_iff_getElem.1 h i (i + 1) h1 h2 (by omega)
theorem risB_pair {lo hi : Int} {l : List Int} (h : risB lo hi l = true) : l.Pairwise (· < ·) ∧ ∀ x ∈ l, lo ≤ x ∧ x ≤ hi := by
  unfold risB at h
  rw [List.all_eq_true] at h
  have hh : ∀ i (hi' : i < l.length), (lo ≤ l[i] ∧ l[i] ≤ hi) ∧ (i = 0 ∨ l.getD (i - 1) 0 < l[i]) := fun i hi' => by
    have := h i (List.mem_range.2 hi')
    unfold risOk at this
    rw [Bool.and_eq_true, fromI_iff, Bool.or_eq_true, decide_eq_true_eq, decide_eq_true_eq] at this
    have e : l.getD i 0 = l[i] := by simp [List.getD, hi']
    rw [e] at this
    exact this
  refine ⟨pair_of_adj fun i y z hy hz => ?_, fun x hx => ?_⟩
  · obtain ⟨h1, rfl⟩ := List.getElem?_eq_some_iff.1 hy
    obtain ⟨h2, rfl⟩ := List.getElem?_eq_some_iff.1 hz
    rcases (hh (i + 1) h2).2 with h3 | h3
    · omega
    · have e : l.getD (i + 1 - 1) 0 = l[i] := by simp [List.getD, h1]
      rw [e] at h3; exact h3
  · obtain ⟨i, hi', rfl⟩ := List.getElem_of_mem hx
    exact (hh i hi').1
theorem woA_sub (sp : List Int) : ∀ (r : List Int) (k : Nat), (woA sp k r).Sublist r
  | [], _ => by simp [woA]
  | x :: r, k => by
    rw [woA]; split
    · exact (woA_sub sp r (k + 1)).cons x
    · exact (woA_sub sp r (k + 1)).cons_cons x
/-- The train without the sparks of a reading. -/
def Pu.les (X : Pu) (sp : List Int) : Pu := ⟨X.l, X.n, X.pi, X.sl, X.ga, X.pa, 0, woL X.ts sp⟩
/-- Whether numbers are the sparks of a reading. -/
def rdgB (X : Pu) (sp : List Int) : Bool := risB 0 ((X.ts.length : Int) - 1) sp && decide ((sp.length : Int) ≤ X.sp) && (lof X (woL X.ts sp)).isSome
theorem les_valid {X : Pu} (hv : vB X = true) (sp : List Int) : vB (X.les sp) = true := by
  rw [vB_iff] at *
  obtain ⟨h1, h2, h3, h4, h5, h6, h7, h8, h9⟩ := hv
  have hl := woA_len sp X.ts 0
  obtain ⟨p1, p2⟩ := risB_pair h9
  refine ⟨h1, h2, h3, h4, h5, h6, by show 0 ≤ (0 : Int) ∧ (0 : Int) ≤ 3; omega, by show (woA sp 0 X.ts).length ≤ 24; omega, ?_⟩
  refine ris_of (fun x hx => p2 x (woA_mem _ _ _ x hx)) (adj_of_pair ?_)
  exact p1.sublist (woA_sub sp X.ts 0)
theorem lof_les (X : Pu) (sp ts : List Int) : lof (X.les sp) ts = lof X ts := by
  have := lof_wt (X.at 0) (woL X.ts sp) ts
  rw [show (X.at 0).wt (woL X.ts sp) = X.les sp from rfl] at this
  rw [this]
  exact lofA_at X 0 _ _
theorem RS_les {X : Pu} {sp L : List Int} (h : lof X (woL X.ts sp) = some L) : RS (X.les sp) = [([], L)] := by
  show (setsG (woL X.ts sp).length 0 0 []).filterMap (rdO (X.les sp)) = _
  rw [setsG]
  have e : rdO (X.les sp) [] = some ([], L) := by
    unfold rdO
    rw [lof_les, show (X.les sp).ts = woL X.ts sp from rfl]
    show (lof X (woA [] 0 (woL X.ts sp))).map _ = _
    rw [woA_nil, h]
    rfl
  rw [List.filterMap_cons, e]
  rfl
theorem les_read {X : Pu} (hv : vB X = true) {sp L : List Int} (h : lof X (woL X.ts sp) = some L) : rdE (X.les sp) true = 0 ∧ rdLi (X.les sp) true = L := by
  have hR := RS_les h
  have hvY := les_valid hv sp
  have he : erX (X.les sp) true = 0 := by
    unfold erX
    rw [hR]
    have hc : chkE (X.les sp) true = 0 := by unfold chkE; rw [hvY]; rfl
    unfold erO; rw [hc]; simp
  have hre : rdE (X.les sp) true = 0 := by
    unfold rdE
    rw [if_pos he, hR]
    rw [if_pos]
    simp [sameB, cntR, slB]
  exact ⟨hre, by unfold rdLi; rw [if_pos hre, hR]; rfl⟩
structure EachLaw (X : Pu) (sp L : List Int) (s : Int) : Prop where
  re : rdE (X.les sp) true = 0
  li : rdLi (X.les sp) true = L
  ak : askE X s = 0
  lo : askLo X s ≤ cntF (eqB s) L
  hi : cntF (eqB s) L ≤ askHi X s
  er : erX X true = 0
  rl : ∀ x ∈ sp, inL x (soX reB X) = false
  rn : (soX reB X).length ≤ 40
  on : (soX spB X).length ≤ 40
  od : inAll (soX spB X) sp = true
  fe : fewE X = 0
  fn : fewN X ≤ sp.length
  fx : fewN X ≤ 3
theorem each_law {X : Pu} (hv : vB X = true) {sp L : List Int} {s : Int} (hg : rdgB X sp = true) (hL : lof X (woL X.ts sp) = some L) (hs : selB X s = true) : EachLaw X sp L s := by
  obtain ⟨ok, hsp, h3⟩ := vB_ok hv
  have hts := (timesB_rng h3).1
  unfold rdgB at hg
  rw [Bool.and_eq_true, Bool.and_eq_true, decide_eq_true_eq] at hg
  obtain ⟨⟨g1, g2⟩, _⟩ := hg
  obtain ⟨g3, g4⟩ := risB_pair g1
  have hris : risF X.ts.length 0 sp := risF_iff _ _ |>.2 ⟨fun x hx => by have := g4 x hx; omega, g3⟩
  have hm : (sp, L) ∈ RS X := rdL_iff.2 ⟨by show sp.length ≤ X.sp.toNat; omega, hris, hL⟩
  have hne : RS X ≠ [] := List.ne_nil_of_mem hm
  have hck : ∀ o, chkE X o = if o = true then 0 else 1 := fun o => by unfold chkE; rw [if_pos hv]
  have her : ∀ o, o = true → erX X o = 0 := fun o ho => by
    unfold erX erO
    rw [hck, ho, if_pos rfl]
    simp [hne]
  have hak : askE X s = 0 := her _ hs
  obtain ⟨hre, hli⟩ := les_read hv hL
  have hin : ∀ x ∈ sp, ∃ i : Nat, i < X.ts.length ∧ x = (i : Int) := fun x hx => ⟨x.toNat, by have := g4 x hx; omega, by have := g4 x hx; omega⟩
  have hfx : fewX X ≤ sp.length := by
    have a : fewM (rdL X 3) ≤ sp.length := (fewM_iff (show sp.length < 4 by omega) _).2 ⟨(sp, L), rdL_iff.2 ⟨by show sp.length ≤ 3; omega, hris, hL⟩, Nat.le_refl _⟩
    exact a
  have hfe : fewE X = 0 := by
    rcases fewE_cases hv with h | h
    · exact h.1
    · omega
  refine ⟨hre, hli, hak, ?_, ?_, her _ rfl, ?_, ?_, ?_, ?_, hfe, ?_, ?_⟩
  · unfold askLo
    rw [if_pos hak]
    exact lowF_iff.2 (.inr ⟨_, hm, Nat.le_refl _⟩)
  · unfold askHi
    rw [if_pos hak]
    exact higF_iff.1 (Nat.le_refl _) _ hm
  · intro x hx
    rw [← Bool.not_eq_true, inL_mem]
    intro hh
    unfold soX at hh
    rw [if_pos (her _ rfl), soL_mem] at hh
    obtain ⟨i, hi, hf, rfl⟩ := hh
    unfold reB cntK cntR at hf
    rw [decide_eq_true_eq, List.length_eq_zero_iff, List.filter_eq_nil_iff] at hf
    exact hf _ hm (inL_mem.2 hx)
  · exact Nat.le_trans (soX_len _ _) (by omega)
  · exact Nat.le_trans (soX_len _ _) (by omega)
  · unfold inAll
    rw [List.all_eq_true]
    intro x hx
    unfold soX at hx
    rw [if_pos (her _ rfl), soL_mem] at hx
    obtain ⟨i, hi, hf, rfl⟩ := hx
    unfold spB cntK cntR at hf
    rw [decide_eq_true_eq, List.length_filter_eq_length_iff] at hf
    exact hf _ hm
  · unfold fewN; rw [if_pos hfe]; exact hfx
  · unfold fewN; rw [if_pos hfe]; omega
end Go.Proofs.Yteianfbdhakhpaa
/-! The specification's IsReading. -/
namespace Go.Proofs.Yteianfbdhakhpaa
set_option linter.unusedSimpArgs false
set_option linter.unusedVariables false
open Go Go.RowKit
set_option maxRecDepth 100000 in
set_option maxHeartbeats 4000000 in
theorem IsReading_any (aT : Option Addr) (cT : Nat) (X : Pu) (hv : vB X = true) (a : Option Addr) (c : Nat) (sp : List Int) (w : World) (hX : Ints w aT X.ts) (hS : Ints w a sp) : Calls Try.prog 39 #[.agg #[.int .i64 X.l, .int .i64 X.n, .int .i64 X.pi, .int .i64 X.sl, .int .i64 X.ga, .int .i64 X.pa, .int .i64 X.sp, .slice aT X.ts.length cT], .slice a sp.length c] w fun e w' => e = .returned (.bool (rdgB X sp)) ∧ Below w.heap.size w w' := by
  obtain ⟨W, hW, hb, _, x0⟩ := boxes1 w #[.int .i64 X.l, .int .i64 X.n, .int .i64 X.pi, .int .i64 X.sl, .int .i64 X.ga, .int .i64 X.pa, .int .i64 X.sp, .slice aT X.ts.length cT] 24
  replace hX := hX.below hb (Nat.le_refl _)
  replace hS := hS.below hb (Nat.le_refl _)
  obtain ⟨ok, hspr, htm⟩ := vB_ok hv
  obtain ⟨h24, htr⟩ := timesB_rng htm
  have hri := fun V h => Rising_any a c sp 0 ((X.ts.length : Int) - 1) V h
  have hle := fun V h1 h2 => Less_any aT a cT c X.ts sp V h1 h2 (by omega)
  have hcl := fun a' c' V h => Clean_any aT cT X ok a' c' (woL X.ts sp) V h (Nat.le_trans (woA_len _ _ _) h24) (fun x hx => htr x (woA_mem _ _ _ x hx))
  have HG := hid (show rdgB X sp = (risB 0 ((X.ts.length : Int) - 1) sp && decide ((sp.length : Int) ≤ X.sp) && (lof X (woL X.ts sp)).isSome) from rfl)
  have hlen := hS.len
  unfold LoP at hcl
  generalize risB 0 ((X.ts.length : Int) - 1) sp = rb at *
  generalize rdgB X sp = R at *
  generalize lof X (woL X.ts sp) = O at *
  generalize woL X.ts sp = LS at *
  generalize X.ts.length = n at *
  generalize sp.length = m at *
  clear hv htm htr ok
  have c0 := x0.cell 0 rfl; have c1 := x0.cell 1 rfl; have c2 := x0.cell 2 rfl; have c3 := x0.cell 3 rfl; have c4 := x0.cell 4 rfl; have c5 := x0.cell 5 rfl; have c6 := x0.cell 6 rfl; have c7 := x0.cell 7 rfl
  go_enter Try.func39, Try.ntmps39
  go_wp2_with fail
  refine (hri _ hS).mono ?_
  rintro e V1 ⟨rfl, hb1⟩
  replace hX := hX.below hb1 (Nat.le_refl _)
  replace hS := hS.below hb1 (Nat.le_refl _)
  clear c0 c1 c2 c3 c4 c5 c6 c7 hri
  replace x0 := x0.below hb1
  replace hb := hb.trans (hb1.mono hb.size)
  clear hb1
  have c0 := x0.cell 0 rfl; have c1 := x0.cell 1 rfl; have c2 := x0.cell 2 rfl; have c3 := x0.cell 3 rfl; have c4 := x0.cell 4 rfl; have c5 := x0.cell 5 rfl; have c6 := x0.cell 6 rfl; have c7 := x0.cell 7 rfl
  cases rb with
  | false =>
    have HR := hid (show R = false from HG.out)
    go_wp2
    go_ret
    exact ⟨ret_bool HR.out.symm, hb⟩
  | true =>
    by_cases hms : (m : Int) > X.sp
    · have HR := hid (show R = false by rw [HG.out, decide_eq_false (by omega)]; rfl)
      go_wp2
      go_ret
      exact ⟨ret_bool HR.out.symm, hb⟩
    · have HR := hid (show R = O.isSome by rw [HG.out, decide_eq_true (by omega)]; rfl)
      clear HG
      go_upto_region 3 with fail
      clear c0 c1 c2 c3 c4 c5 c6 c7
      cases O with
      | none =>
        have S0 : BlS V1 V1.drew := (Below.refl V1.heap.size V1).drew
        refine wp_region_headW 11 (fun w' => BlS V1 w') (by kernel_rfl) (by kernel_rfl) ?_
        generalize V1.drew = Y0 at *
        refine HeadAt.takeW (i := 0) (.agg #[.int .i64 X.l, .int .i64 X.n, .int .i64 X.pi, .int .i64 X.sl, .int .i64 X.ga, .int .i64 X.pa, .int .i64 X.sp, .slice aT n cT]) rfl (by kernel_rfl) (.inl ⟨rfl, fun w' z => ?_⟩) S0 ?_
        · (have z0 := (x0.below z).cell 0 rfl; have z1 := (x0.below z).cell 1 rfl; have z2 := (x0.below z).cell 2 rfl; have z3 := (x0.below z).cell 3 rfl; have z4 := (x0.below z).cell 4 rfl; have z5 := (x0.below z).cell 5 rfl; have z6 := (x0.below z).cell 6 rfl; have z7 := (x0.below z).cell 7 rfl; simp [go_sem, z0, z1, z2, z3, z4, z5, z6, z7])
        (try simp only [Act.put, List.getElem_toArray, List.getElem_cons_succ, List.getElem_cons_zero, List.setIfInBounds_toArray, List.set_cons_succ, List.set_cons_zero])
        refine HeadAt.takeW (i := 1) (.pointer (some ⟨w.heap.size, 7, none⟩)) rfl (by kernel_rfl) (.inl ⟨rfl, fun _ _ => by simp [go_sem]⟩) S0 ?_
        (try simp only [Act.put, List.getElem_toArray, List.getElem_cons_succ, List.getElem_cons_zero, List.setIfInBounds_toArray, List.set_cons_succ, List.set_cons_zero])
        refine HeadAt.takeW (i := 2) (.slice aT n cT) rfl (by kernel_rfl) (.inl ⟨rfl, fun w' z => ?_⟩) S0 ?_
        · (have z0 := (x0.below z).cell 7 rfl; simp [go_sem, z0])
        (try simp only [Act.put, List.getElem_toArray, List.getElem_cons_succ, List.getElem_cons_zero, List.setIfInBounds_toArray, List.set_cons_succ, List.set_cons_zero])
        refine HeadAt.takeW (i := 3) (.slice a m c) rfl (by kernel_rfl) (.inl ⟨rfl, fun _ _ => by simp [go_sem]⟩) S0 ?_
        (try simp only [Act.put, List.getElem_toArray, List.getElem_cons_succ, List.getElem_cons_zero, List.setIfInBounds_toArray, List.set_cons_succ, List.set_cons_zero])
        refine HeadAt.one (i := 4) rfl (by kernel_rfl) ?_
        generalize hK : Upto _ _ = K0
        (try simp only [Act.put, List.getElem_toArray, List.getElem_cons_succ, List.getElem_cons_zero, List.setIfInBounds_toArray, List.set_cons_succ, List.set_cons_zero])
        go_wp2_with fail
        refine (hle _ (hX.below S0 (Nat.le_refl _)) (hS.below S0 (Nat.le_refl _))).mono ?_
        rintro e V2 ⟨hb1, a7, c7, rfl, z7⟩
        go_wp2_with fail
        replace S0 := Below.trans S0 (hb1.mono (Below.size S0))
        clear hb1
        subst hK
        refine ⟨S0, ?_⟩
        (try simp only [Act.put, List.getElem_toArray, List.getElem_cons_succ, List.getElem_cons_zero, List.setIfInBounds_toArray, List.set_cons_succ, List.set_cons_zero])
        refine HeadAt.one (i := 5) rfl (by kernel_rfl) ?_
        generalize hK : Upto _ _ = K0
        (try simp only [Act.put, List.getElem_toArray, List.getElem_cons_succ, List.getElem_cons_zero, List.setIfInBounds_toArray, List.set_cons_succ, List.set_cons_zero])
        go_wp2_with fail
        refine (hcl _ _ _ z7.i).mono ?_
        rintro e V3 ⟨hb1, hh⟩
        rcases hh with ⟨_, rfl⟩ | ⟨L9, a8, c8, hh, _, _⟩
        rotate_left
        · cases hh
        go_wp2_with fail
        replace S0 := Below.trans S0 (hb1.mono (Below.size S0))
        clear hb1
        subst hK
        refine ⟨S0, ?_⟩
        (try simp only [Act.put, List.getElem_toArray, List.getElem_cons_succ, List.getElem_cons_zero, List.setIfInBounds_toArray, List.set_cons_succ, List.set_cons_zero])
        refine HeadAt.takeW (i := 6) (.tuple #[.slice none 0 0, .bool false]) rfl (by kernel_rfl) (.inl ⟨rfl, fun _ _ => by simp [go_sem]⟩) S0 ?_
        (try simp only [Act.put, List.getElem_toArray, List.getElem_cons_succ, List.getElem_cons_zero, List.setIfInBounds_toArray, List.set_cons_succ, List.set_cons_zero])
        refine HeadAt.takeW (i := 7) (.slice none 0 0) rfl (by kernel_rfl) (.inl ⟨rfl, fun w' z => ?_⟩) S0 ?_
        · (simp [go_sem])
        (try simp only [Act.put, List.getElem_toArray, List.getElem_cons_succ, List.getElem_cons_zero, List.setIfInBounds_toArray, List.set_cons_succ, List.set_cons_zero])
        refine HeadAt.takeW (i := 8) (.bool false) rfl (by kernel_rfl) (.inl ⟨rfl, fun w' z => ?_⟩) S0 ?_
        · (simp [go_sem])
        (try simp only [Act.put, List.getElem_toArray, List.getElem_cons_succ, List.getElem_cons_zero, List.setIfInBounds_toArray, List.set_cons_succ, List.set_cons_zero])
        refine HeadAt.takeW (i := 9) (.slice none 0 0) rfl (by kernel_rfl) (.inl ⟨rfl, fun _ _ => by simp [go_sem]⟩) S0 ?_
        (try simp only [Act.put, List.getElem_toArray, List.getElem_cons_succ, List.getElem_cons_zero, List.setIfInBounds_toArray, List.set_cons_succ, List.set_cons_zero])
        refine HeadAt.takeW (i := 10) (.bool false) rfl (by kernel_rfl) (.inl ⟨rfl, fun _ _ => by simp [go_sem]⟩) S0 ?_
        (try simp only [Act.put, List.getElem_toArray, List.getElem_cons_succ, List.getElem_cons_zero, List.setIfInBounds_toArray, List.set_cons_succ, List.set_cons_zero])
        refine HeadAt.done (by kernel_rfl) ?_
        (try simp only [Act.put, List.drop_succ_cons, List.drop_zero, List.getElem_toArray, List.getElem_cons_succ, List.getElem_cons_zero])
        go_wp2_with fail
        refine NoPanic.normal ?_
        have hbz := hb.trans (Below.mono S0 hb.size)
        clear S0
        go_wp2
        go_ret
        exact ⟨ret_bool HR.out.symm, hbz⟩
      | some L =>
        have S0 : BlS V1 V1.drew := (Below.refl V1.heap.size V1).drew
        refine wp_region_headW 11 (fun w' => BlS V1 w') (by kernel_rfl) (by kernel_rfl) ?_
        generalize V1.drew = Y0 at *
        refine HeadAt.takeW (i := 0) (.agg #[.int .i64 X.l, .int .i64 X.n, .int .i64 X.pi, .int .i64 X.sl, .int .i64 X.ga, .int .i64 X.pa, .int .i64 X.sp, .slice aT n cT]) rfl (by kernel_rfl) (.inl ⟨rfl, fun w' z => ?_⟩) S0 ?_
        · (have z0 := (x0.below z).cell 0 rfl; have z1 := (x0.below z).cell 1 rfl; have z2 := (x0.below z).cell 2 rfl; have z3 := (x0.below z).cell 3 rfl; have z4 := (x0.below z).cell 4 rfl; have z5 := (x0.below z).cell 5 rfl; have z6 := (x0.below z).cell 6 rfl; have z7 := (x0.below z).cell 7 rfl; simp [go_sem, z0, z1, z2, z3, z4, z5, z6, z7])
        (try simp only [Act.put, List.getElem_toArray, List.getElem_cons_succ, List.getElem_cons_zero, List.setIfInBounds_toArray, List.set_cons_succ, List.set_cons_zero])
        refine HeadAt.takeW (i := 1) (.pointer (some ⟨w.heap.size, 7, none⟩)) rfl (by kernel_rfl) (.inl ⟨rfl, fun _ _ => by simp [go_sem]⟩) S0 ?_
        (try simp only [Act.put, List.getElem_toArray, List.getElem_cons_succ, List.getElem_cons_zero, List.setIfInBounds_toArray, List.set_cons_succ, List.set_cons_zero])
        refine HeadAt.takeW (i := 2) (.slice aT n cT) rfl (by kernel_rfl) (.inl ⟨rfl, fun w' z => ?_⟩) S0 ?_
        · (have z0 := (x0.below z).cell 7 rfl; simp [go_sem, z0])
        (try simp only [Act.put, List.getElem_toArray, List.getElem_cons_succ, List.getElem_cons_zero, List.setIfInBounds_toArray, List.set_cons_succ, List.set_cons_zero])
        refine HeadAt.takeW (i := 3) (.slice a m c) rfl (by kernel_rfl) (.inl ⟨rfl, fun _ _ => by simp [go_sem]⟩) S0 ?_
        (try simp only [Act.put, List.getElem_toArray, List.getElem_cons_succ, List.getElem_cons_zero, List.setIfInBounds_toArray, List.set_cons_succ, List.set_cons_zero])
        refine HeadAt.one (i := 4) rfl (by kernel_rfl) ?_
        generalize hK : Upto _ _ = K0
        (try simp only [Act.put, List.getElem_toArray, List.getElem_cons_succ, List.getElem_cons_zero, List.setIfInBounds_toArray, List.set_cons_succ, List.set_cons_zero])
        go_wp2_with fail
        refine (hle _ (hX.below S0 (Nat.le_refl _)) (hS.below S0 (Nat.le_refl _))).mono ?_
        rintro e V2 ⟨hb1, a7, c7, rfl, z7⟩
        go_wp2_with fail
        replace S0 := Below.trans S0 (hb1.mono (Below.size S0))
        clear hb1
        subst hK
        refine ⟨S0, ?_⟩
        (try simp only [Act.put, List.getElem_toArray, List.getElem_cons_succ, List.getElem_cons_zero, List.setIfInBounds_toArray, List.set_cons_succ, List.set_cons_zero])
        refine HeadAt.one (i := 5) rfl (by kernel_rfl) ?_
        generalize hK : Upto _ _ = K0
        (try simp only [Act.put, List.getElem_toArray, List.getElem_cons_succ, List.getElem_cons_zero, List.setIfInBounds_toArray, List.set_cons_succ, List.set_cons_zero])
        go_wp2_with fail
        refine (hcl _ _ _ z7.i).mono ?_
        rintro e V3 ⟨hb1, hh⟩
        rcases hh with ⟨hh, _⟩ | ⟨L9, a8, c8, hh, rfl, _⟩
        · cases hh
        cases hh
        go_wp2_with fail
        replace S0 := Below.trans S0 (hb1.mono (Below.size S0))
        clear hb1
        subst hK
        refine ⟨S0, ?_⟩
        (try simp only [Act.put, List.getElem_toArray, List.getElem_cons_succ, List.getElem_cons_zero, List.setIfInBounds_toArray, List.set_cons_succ, List.set_cons_zero])
        refine HeadAt.takeW (i := 6) (.tuple #[.slice a8 L.length c8, .bool true]) rfl (by kernel_rfl) (.inl ⟨rfl, fun _ _ => by simp [go_sem]⟩) S0 ?_
        (try simp only [Act.put, List.getElem_toArray, List.getElem_cons_succ, List.getElem_cons_zero, List.setIfInBounds_toArray, List.set_cons_succ, List.set_cons_zero])
        refine HeadAt.takeW (i := 7) (.slice a8 L.length c8) rfl (by kernel_rfl) (.inl ⟨rfl, fun w' z => ?_⟩) S0 ?_
        · (simp [go_sem])
        (try simp only [Act.put, List.getElem_toArray, List.getElem_cons_succ, List.getElem_cons_zero, List.setIfInBounds_toArray, List.set_cons_succ, List.set_cons_zero])
        refine HeadAt.takeW (i := 8) (.bool true) rfl (by kernel_rfl) (.inl ⟨rfl, fun w' z => ?_⟩) S0 ?_
        · (simp [go_sem])
        (try simp only [Act.put, List.getElem_toArray, List.getElem_cons_succ, List.getElem_cons_zero, List.setIfInBounds_toArray, List.set_cons_succ, List.set_cons_zero])
        refine HeadAt.takeW (i := 9) (.slice a8 L.length c8) rfl (by kernel_rfl) (.inl ⟨rfl, fun _ _ => by simp [go_sem]⟩) S0 ?_
        (try simp only [Act.put, List.getElem_toArray, List.getElem_cons_succ, List.getElem_cons_zero, List.setIfInBounds_toArray, List.set_cons_succ, List.set_cons_zero])
        refine HeadAt.takeW (i := 10) (.bool true) rfl (by kernel_rfl) (.inl ⟨rfl, fun _ _ => by simp [go_sem]⟩) S0 ?_
        (try simp only [Act.put, List.getElem_toArray, List.getElem_cons_succ, List.getElem_cons_zero, List.setIfInBounds_toArray, List.set_cons_succ, List.set_cons_zero])
        refine HeadAt.done (by kernel_rfl) ?_
        (try simp only [Act.put, List.drop_succ_cons, List.drop_zero, List.getElem_toArray, List.getElem_cons_succ, List.getElem_cons_zero])
        go_wp2_with fail
        refine NoPanic.normal ?_
        have hbz := hb.trans (Below.mono S0 hb.size)
        clear S0
        go_wp2
        go_ret
        exact ⟨ret_bool HR.out.symm, hbz⟩
end Go.Proofs.Yteianfbdhakhpaa
