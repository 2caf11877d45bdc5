import Derived.Test.YteianfbdhakhpaaQ6
import Derived.Test.YteianfbdhakhpaaM2
import Derived.Maps.AppendAt
/-! A region that draws its order, taken whole as a head: no operation is left for a tail. -/
namespace Go.Proofs.Yteianfbdhakhpaa
set_option linter.unusedSimpArgs false
set_option linter.unusedVariables false
open Go
section
variable {P : Program} {md : Region.Mode} {ops : Array Oper} {S : World → Prop} {Q : Exit → Act → World → Prop}

theorem headH_firstW {n i : Nat} {oi : Oper} {v : Value} {L : Array Bool → Act → World → Prop} (hi : ops[i]? = some oi) (hsel : ∀ (j : Nat) (o : Oper) cs b, ops[j]? = some o → o.op ≠ .select cs b)
    (hn : ops.size ≤ n)
    (hQ : ∀ c a w, Q (.panic c) (a.put oi.dst v) w → Q (.panic c) a w)
    (hdone : ∀ s a w, L s a w → ∀ j ∈ Region.ready md ops s, n ≤ j) :
    ∀ (f : Nat) (s : Array Bool) (a : Act) (w : World), HeadInv md ops n s →
      (∀ j oj, ops[j]? = some oj → j ≠ i → s.getD j true = false → (∀ e ∈ oj.after, Region.binds md e = true → e.on ≠ i) → oi.apart ops oj = true) →
      i ∈ Region.ready md ops s → YieldsIf P ops S oi v a → S w →
      headH P md ops Q S n L f (s.setIfInBounds i true) (a.put oi.dst v) w → headH P md ops Q S n L (f + 1) s a w := by
  have hlt : ∀ (s : Array Bool) (j : Nat), j ∈ Region.ready md ops s → j < n := fun s j hj => by
    obtain ⟨_, oj, hoj, _⟩ := mem_ready.1 hj
    exact Nat.lt_of_lt_of_le (Array.getElem?_eq_some_iff.1 hoj).1 hn
  intro f
  induction f with
  | zero =>
    intro s a w inv _ hr hy hS H
    refine ⟨List.ne_nil_of_mem hr, fun j hj => ?_⟩
    have hjn : j < n := hlt s j hj
    refine ⟨hjn, ?_⟩
    by_cases e : j = i
    · rw [e]; exact hy.wpOp hi hS ⟨hS, H⟩
    · exact absurd (hdone _ _ _ H j (ready_mono hj e)) (by omega)
  | succ f ih =>
    intro s a w inv hfree hr hy hS H
    have hun := (mem_ready.1 hr).1
    refine ⟨List.ne_nil_of_mem hr, fun j hj => ?_⟩
    have hjn : j < n := hlt s j hj
    refine ⟨hjn, ?_⟩
    by_cases e : j = i
    · rw [e]; exact hy.wpOp hi hS ⟨hS, H⟩
    · obtain ⟨hjun, oj, hoj, hall⟩ := mem_ready.1 hj
      have free : ∀ x ∈ oj.after, Region.binds md x = true → x.on ≠ i := by
        intro x hx hb hxi
        have := hall x hx hb
        rw [hxi, getD_both hun] at this
        cases this
      have h2 := wpOp_putIf hoj (hfree j oj hoj e hjun free) (fun cs b => hsel i oi cs b hi) (fun cs b => hsel j oj cs b hoj) hQ hy (H.2 j (ready_mono hj e)).2
      refine wpOp_mono (fun a' w' h3 => ⟨h3.2.1, ih (s.setIfInBounds j true) a' w' (inv.set hj hjn) ?_ (ready_mono hr (Ne.symm e)) h3.1 h3.2.1 ?_⟩) h2
      · intro k ok hk hki hkun hno
        refine hfree k ok hk hki ?_ hno
        by_cases ejk : j = k
        · rw [← ejk]; exact hjun
        · rw [getD_set_ne true ejk] at hkun; exact hkun
      · rw [Array.setIfInBounds_comm _ _ e]
        exact h3.2.2

/-- A read may be taken first. -/
theorem HeadAt.takeW {l : List Oper} {n f i : Nat} {s : Array Bool} {a : Act} {w : World} {oi : Oper} (v : Value) (hi : l.toArray[i]? = some oi)
    (hb : (Region.noSelect l.toArray && (decide (l.toArray.size ≤ n) && (decide (i < n) && (Region.free .any l.toArray s i && (Region.ready .any l.toArray s).contains i)))) = true)
    (hy : YieldsIf P l.toArray S oi v a) (hS : S w) (h : HeadAt P l Q S n f (s.setIfInBounds i true) (a.put oi.dst v) w) : HeadAt P l Q S n (f + 1) s a w := fun inv => by
  simp only [Bool.and_eq_true, decide_eq_true_eq] at hb
  obtain ⟨h1, h4, h5, h6, h7⟩ := hb
  have hr : i ∈ Region.ready .any l.toArray s := by simpa using h7
  exact headH_firstW hi (Region.noSelect_spec h1) h4 (fun c a w hh => hh) (fun s a w hL => seqB_ready hL.1) f s a w inv (Region.free_spec hi h6) hr hy hS (h (inv.set hr h5))

theorem wp_region_headW {id : Nat} {a : Act} {w : World} {l : List Oper} (n : Nat) (S : World → Prop) (hm : P.follows .mixedOrders = true) (hn : decide (n ≤ l.length) = true)
    (h : HeadAt P l Q S n n (Array.replicate l.length false) a w.drew) : (Code.region id l.toArray true).wp P Q a w := by
  simp only [decide_eq_true_eq] at hn
  have inv0 : HeadInv .any l.toArray n (Array.replicate l.length false) := by
    refine ⟨by simp, fun j oj _ hl => ?_, fun t _ ht => getD_in (by simpa using ht) (getD_replicate_false _ _)⟩
    rw [getD_replicate_false] at hl; cases hl
  refine wp_region_noPanic (wp_region_any hm ?_)
  have := headH_any (g := l.length - n) (fun s a w (hL : tailL P .any l (NoPanic Q) n s a w) => by
    have := wpAny_of_seq (md := .any) (Q' := NoPanic Q) (l.drop n) n s a w (fun j => by simp [List.getElem?_drop]) (by rw [List.length_drop]; exact hL.1) hL.2
    rwa [List.length_drop] at this) _ _ _ _ (h inv0)
  rw [show n + (l.length - n) = l.length by omega] at this
  simpa using this
end
end Go.Proofs.Yteianfbdhakhpaa
/-! What is written. -/
namespace Go.Proofs.Yteianfbdhakhpaa
set_option linter.unusedSimpArgs false
set_option linter.unusedVariables false
open Go Go.RowKit

theorem get_mem {α : Type} {l : List α} {k : Nat} {x : α} (h : l[k]? = some x) : x ∈ l := List.mem_of_getElem? h
/-- The parts of the distances, by the operations that make them. -/
def wrF (X : Pu) (s : Int) : Nat → List Int
  | 2 => [X.pa]
  | 5 => [X.pi]
  | 7 => List.replicate (s / X.n).toNat X.pi
  | 10 => [X.ga]
  | 13 => [X.pi]
  | 15 => List.replicate (s % X.n).toNat X.pi
  | _ => []
def wrP (B : Nat) (X : Pu) (s : Int) (j : Nat) (v : Value) (w : World) : Prop := ∃ a c, v = .slice a (wrF X s j).length c ∧ Iz B w a (wrF X s j)
theorem wrP_below (B : Nat) (X : Pu) (s : Int) (j : Nat) (v : Value) (w w' : World) (h : wrP B X s j v w) (hb : Below w.heap.size w w') : wrP B X s j v w' := by
  obtain ⟨a, c, h1, h2⟩ := h
  exact ⟨a, c, h1, h2.below hb⟩
theorem one_iz {w : World} {B : Nat} (hB : B ≤ w.heap.size) (x : Int) (hx : -9223372036854775808 ≤ x ∧ x ≤ 9223372036854775807) : Iz B (w.alloc (.cells #[.int .i64 x] 3)) (some ⟨w.heap.size, 0, none⟩) [x] := by
  have h := Bx.new w #[.int .i64 x] 3
  refine ⟨Ints.of_bx (show Bx _ w.heap.size (vrow [x]) 3 from h) (by simp) (fun y hy => by rw [List.mem_singleton.1 hy]; exact hx), (fun ad e => by cases e; exact ⟨_, _, h⟩), (fun ad e => by cases e; exact hB)⟩

theorem own_ltI {w : World} {base size : Nat} {e : TypeId} {v : Value} {n : Nat} {xs : List Value} (h : w.ownsRow base e size v n xs) : ∀ k, v.ownBlock = some k → k < w.heap.size := fun k hk => (h.lt k hk).2
theorem dsR_lsr {V : World} {g : Nat} {X : Pu} {s : Int} {lt nb c2 c7 c10 c15 : Nat} {a2 a7 a10 a15 : Option Addr} (hl : lt = (s / X.n).toNat) (hn : nb = (s % X.n).toNat) (h : Bx V g #[.slice a2 1 c2, .slice a7 lt c7, .slice a10 1 c10, .slice a15 nb c15] 22)
    (i2 : Ints V a2 [X.pa]) (i7 : Ints V a7 (List.replicate (s / X.n).toNat X.pi)) (i10 : Ints V a10 [X.ga]) (i15 : Ints V a15 (List.replicate (s % X.n).toNat X.pi)) : Lsr V (some ⟨g, 0, none⟩) (dsR X s) := by
  have e0 : (⟨g, 0, none⟩ : Addr).add 0 = ⟨g, 0, none⟩ := rfl
  intro i ks hi
  match i, hi with
  | 0, hi => obtain rfl : [X.pa] = ks := by simpa [dsR] using hi
             exact ⟨g, 0, a2, c2, rfl, h.lt, h.cell 0 rfl, i2⟩
  | 1, hi => obtain rfl : List.replicate (s / X.n).toNat X.pi = ks := by simpa [dsR] using hi
             refine ⟨g, 0, a7, c7, rfl, h.lt, ?_, i7⟩
             rw [List.length_replicate, ← hl]; exact h.cell 1 rfl
  | 2, hi => obtain rfl : [X.ga] = ks := by simpa [dsR] using hi
             exact ⟨g, 0, a10, c10, rfl, h.lt, h.cell 2 rfl, i10⟩
  | 3, hi => obtain rfl : List.replicate (s % X.n).toNat X.pi = ks := by simpa [dsR] using hi
             refine ⟨g, 0, a15, c15, rfl, h.lt, ?_, i15⟩
             rw [List.length_replicate, ← hn]; exact h.cell 3 rfl
  | n + 4, hi => simp [dsR] at hi

set_option maxRecDepth 100000 in
set_option maxHeartbeats 8000000 in
theorem written_any (aT : Option Addr) (cT : Nat) (X : Pu) (ok : POk X) (aL : Option Addr) (cL : Nat) (L : List Int) (t : Int) (ht : 0 ≤ t ∧ t ≤ 99999) (hL : ∀ s ∈ L, 0 ≤ s ∧ s < X.l * X.n) (h24 : L.length ≤ 24) (w : World) (hI : Ints w aL L) : Calls Try.prog 54 #[.agg #[.int .i64 X.l, .int .i64 X.n, .int .i64 X.pi, .int .i64 X.sl, .int .i64 X.ga, .int .i64 X.pa, .int .i64 X.sp, .slice aT X.ts.length cT], .slice aL L.length cL, .int .i64 t] w (CcP (wrtL X L t) w) := by
  obtain ⟨j0, hj0, jz0, jz1, jz2⟩ := info_parts info3i
  obtain ⟨W, hW, hb, _, x0⟩ := boxes1 w #[.int .i64 X.l, .int .i64 X.n, .int .i64 X.pi, .int .i64 X.sl, .int .i64 X.ga, .int .i64 X.pa, .int .i64 X.sp, .slice aT X.ts.length cT] 24
  have hIW := hI.below hb (Nat.le_refl _)
  have hpi := ok.pi; have hsl := ok.sl; have hga := ok.ga; have hpa := ok.pa; have hnn := ok.n
  have HSP := hid (show ∀ s ∈ L, 0 ≤ s / X.n ∧ s / X.n ≤ 4 ∧ 0 ≤ s % X.n ∧ s % X.n ≤ 4 from fun s hs => sel_parts ok (hL s hs))
  have HDS := hid (show ∀ s ∈ L, (dsL X s).length ≤ 10 ∧ ∀ d ∈ dsL X s, 0 ≤ d ∧ d ≤ 999 from fun s hs => dsL_all ok (hL s hs))
  have HAL := hid (show ∀ k, (alD X (L.take k)).length ≤ 10 * (L.take k).length ∧ ∀ d ∈ alD X (L.take k), 0 ≤ d ∧ d ≤ 999 from fun k => alD_all ok (L.take k) (fun s hs => hL s (List.mem_of_mem_take hs)))
  have HWR := hid (show wrtL X L t = accL (t - X.pa) (alD X L) from rfl)
  have HTK := hid (show ∀ k s, L[k]? = some s → alD X (L.take (k + 1)) = alD X (L.take k) ++ dsL X s from fun k s h => by rw [List.take_add_one, h]; exact alD_snoc X _ s)
  have HS0 := hid (show ∀ s ∈ L, 0 ≤ s from fun s hs => (hL s hs).1)
  obtain ⟨f, hf⟩ : ∃ f, f = t - X.pa := ⟨_, rfl⟩
  have ewf : IntKind.i64.wrap (t - X.pa) = f := by rw [hf]; exact IntWalk.i64_in _ (by omega)
  rw [← hf] at HWR
  have hfr : -999 ≤ f ∧ f ≤ 99999 := by omega
  generalize wrtL X L t = WR at *
  obtain ⟨m, hm⟩ : ∃ m, m = L.length := ⟨_, rfl⟩
  rw [← hm] at h24 ⊢
  have HM := hid hm
  obtain ⟨nT, hnT⟩ : ∃ nT, nT = X.ts.length := ⟨_, rfl⟩
  rw [← hnT] at x0 hW ⊢
  have hmI : (m : Int) ≤ 24 := by omega
  have hbw := hb.size
  have HOK := hid ok
  clear hf hm hnT hI hL ok
  have c0 := x0.cell 0 rfl; have c1 := x0.cell 1 rfl; have c2 := x0.cell 2 rfl; have c3 := x0.cell 3 rfl; have c4 := x0.cell 4 rfl; have c5 := x0.cell 5 rfl; have c6 := x0.cell 6 rfl; have c7 := x0.cell 7 rfl
  go_enter Try.func54, Try.ntmps54
  go_wp2
  clear hW c0 c1 c2 c3 c4 c5 c6 c7
  go_loopw [7, 8, 10, 11, 12, 14, 21] (fun v7 v8 v10 v11 v12 v14 v21 wr => ∃ (k p : Nat) (a : Option Addr) (c : Nat) (q : Int), k ≤ m ∧ v21 = .int .i64 (k : Int) ∧ v7 = .slice a p c ∧ v8 = .int .i64 q ∧ Hid (p = (alD X (L.take k)).length ∧ q = sumL f (alD X (L.take k))) ∧ wr.ownsRow W.heap.size 3 1 (.slice a p c) p ((accL f (alD X (L.take k))).map (Value.int .i64)) ∧ Below W.heap.size W wr) (fun _ _ _ _ _ _ v21 _ => m - (intOf v21).toNat)
  case atStart => exact ⟨0, 0, none, 0, f, Nat.zero_le _, rfl, rfl, rfl, hid ⟨by simp [alD], by simp [alD, sumL]⟩, by simpa [alD, accL] using World.ownsRow_nil _ _ _ _, Below.refl _ _⟩
  case round =>
    obtain ⟨k, p, a, c, q, hk, rfl, rfl, rfl, HP, hown, hbr⟩ := hrel
    by_cases hlt : k < m
    · obtain ⟨b, off, s, rfl, hbl, hc, _, _, hg, _⟩ := (hIW.below hbr (Nat.le_refl _)).at (k := k) (by rw [← HM.out]; exact hlt)
      have hsm := get_mem hg.out
      obtain ⟨s1, s2, s3, s4⟩ := HSP.out s hsm
      have hs0 := HS0.out s hsm
      obtain ⟨hd1, hd2⟩ := HDS.out s hsm
      have hal := HAL.out k
      have hst := HTK.out k s hg.out
      have hkI : (k : Int) < m := by omega
      have hk0 : (0 : Int) ≤ (k : Int) := by omega
      have xr := x0.below hbr
      have hw := hb.trans (hbr.mono hbw)
      have hiw := (hIW.below hbr (Nat.le_refl _))
      clear hg hsm
      go_upto_region 6 with fail
      have hnz : ¬ X.n = 0 := by omega
      obtain ⟨lt, hlt1⟩ : ∃ lt, lt = (s / X.n).toNat := ⟨_, rfl⟩
      obtain ⟨nb, hnb1⟩ : ∃ nb, nb = (s % X.n).toNat := ⟨_, rfl⟩
      have e1 : s / X.n = (lt : Int) := by omega
      have e2 : s % X.n = (nb : Int) := by omega
      have hl4 : lt ≤ 4 := by omega
      have hn4 : nb ≤ 4 := by omega
      have hlt0 : IntKind.i64.wrap (lt : Int) = (lt : Int) := IntWalk.i64_in _ (by omega)
      have hnb0 : IntKind.i64.wrap (nb : Int) = (nb : Int) := IntWalk.i64_in _ (by omega)
      have HLN := hid (And.intro hlt1 hnb1)
      have htd : s.tdiv X.n = (lt : Int) := by rw [Int.tdiv_eq_ediv_of_nonneg hs0, e1]
      have htm : s.tmod X.n = (nb : Int) := by rw [Int.tmod_eq_emod_of_nonneg hs0, e2]
      clear hlt1 hnb1 e1 e2 s1 s2 s3 s4 hc
      have S0 : BlS wr wr.drew := (Below.refl wr.heap.size wr).drew
      refine wp_region_head 9 (fun w' => BlS wr w') (by kernel_rfl) rfl ?_
      generalize wr.drew = Y0 at *
      refine HeadAt.take (i := 0) (.int .i64 s) rfl (by kernel_rfl) (.inl ⟨rfl, fun _ _ => by simp [go_sem]⟩) S0 ?_
      (try simp only [Act.put, List.getElem_toArray, List.getElem_cons_succ, List.getElem_cons_zero, List.setIfInBounds_toArray, List.set_cons_succ, List.set_cons_zero])
      refine HeadAt.take (i := 1) (.pointer (some ⟨w.heap.size, 1, none⟩)) rfl (by kernel_rfl) (.inl ⟨rfl, fun _ _ => by simp [go_sem]⟩) S0 ?_
      (try simp only [Act.put, List.getElem_toArray, List.getElem_cons_succ, List.getElem_cons_zero, List.setIfInBounds_toArray, List.set_cons_succ, List.set_cons_zero])
      refine HeadAt.take (i := 2) (.int .i64 X.n) rfl (by kernel_rfl) (.inl ⟨rfl, fun w' z => ?_⟩) S0 ?_
      · (have z0 := (xr.below z).cell 1 rfl; simp [go_sem, z0])
      (try simp only [Act.put, List.getElem_toArray, List.getElem_cons_succ, List.getElem_cons_zero, List.setIfInBounds_toArray, List.set_cons_succ, List.set_cons_zero])
      refine HeadAt.take (i := 3) (.int .i64 (lt : Int)) rfl (by kernel_rfl) (.inl ⟨rfl, fun w' z => ?_⟩) S0 ?_
      · (simp [go_sem, hnz, hlt0, htd])
      (try simp only [Act.put, List.getElem_toArray, List.getElem_cons_succ, List.getElem_cons_zero, List.setIfInBounds_toArray, List.set_cons_succ, List.set_cons_zero])
      refine HeadAt.take (i := 4) (.int .i64 s) rfl (by kernel_rfl) (.inl ⟨rfl, fun _ _ => by simp [go_sem]⟩) S0 ?_
      (try simp only [Act.put, List.getElem_toArray, List.getElem_cons_succ, List.getElem_cons_zero, List.setIfInBounds_toArray, List.set_cons_succ, List.set_cons_zero])
      refine HeadAt.take (i := 5) (.pointer (some ⟨w.heap.size, 1, none⟩)) rfl (by kernel_rfl) (.inl ⟨rfl, fun _ _ => by simp [go_sem]⟩) S0 ?_
      (try simp only [Act.put, List.getElem_toArray, List.getElem_cons_succ, List.getElem_cons_zero, List.setIfInBounds_toArray, List.set_cons_succ, List.set_cons_zero])
      refine HeadAt.take (i := 6) (.int .i64 X.n) rfl (by kernel_rfl) (.inl ⟨rfl, fun w' z => ?_⟩) S0 ?_
      · (have z0 := (xr.below z).cell 1 rfl; simp [go_sem, z0])
      (try simp only [Act.put, List.getElem_toArray, List.getElem_cons_succ, List.getElem_cons_zero, List.setIfInBounds_toArray, List.set_cons_succ, List.set_cons_zero])
      refine HeadAt.take (i := 7) (.int .i64 (nb : Int)) rfl (by kernel_rfl) (.inl ⟨rfl, fun w' z => ?_⟩) S0 ?_
      · (simp [go_sem, hnz, hnb0, htm])
      (try simp only [Act.put, List.getElem_toArray, List.getElem_cons_succ, List.getElem_cons_zero, List.setIfInBounds_toArray, List.set_cons_succ, List.set_cons_zero])
      refine HeadAt.take (i := 8) (.int .i64 (lt : Int)) rfl (by kernel_rfl) (.inl ⟨rfl, fun _ _ => by simp [go_sem]⟩) S0 ?_
      (try simp only [Act.put, List.getElem_toArray, List.getElem_cons_succ, List.getElem_cons_zero, List.setIfInBounds_toArray, List.set_cons_succ, List.set_cons_zero])
      refine HeadAt.done (by kernel_rfl) ?_
      (try simp only [Act.put, List.drop_succ_cons, List.drop_zero, List.getElem_toArray, List.getElem_cons_succ, List.getElem_cons_zero])
      go_wp2_with fail
      refine NoPanic.normal ?_
      replace xr := xr.below S0
      replace hown := own_below2 hown S0
      replace hbr := hbr.trans (Below.mono S0 hbr.size)
      replace hw := hw.trans (Below.mono S0 hw.size)
      clear S0 hlt0 hnb0 htd htm hiw
      go_upto_region 7 with fail
      have HX2 := hid (And.intro hown (And.intro hbr hw))
      have hYs := hbr.size
      clear hown hbr hw
      have S0 : BlS Y0 Y0.drew := (Below.refl Y0.heap.size Y0).drew
      refine wp_region_headW 20 (fun w' => BlS Y0 w') (by kernel_rfl) (by kernel_rfl) ?_
      generalize Y0.drew = Y1 at *
      refine HeadAt.takeW (i := 0) (.pointer (some ⟨w.heap.size, 5, none⟩)) rfl (by kernel_rfl) (.inl ⟨rfl, fun _ _ => by simp [go_sem]⟩) S0 ?_
      (try simp only [Act.put, List.getElem_toArray, List.getElem_cons_succ, List.getElem_cons_zero, List.setIfInBounds_toArray, List.set_cons_succ, List.set_cons_zero])
      refine HeadAt.takeW (i := 1) (.int .i64 X.pa) rfl (by kernel_rfl) (.inl ⟨rfl, fun w' z => ?_⟩) S0 ?_
      · (have z0 := (xr.below z).cell 5 rfl; simp [go_sem, z0])
      (try simp only [Act.put, List.getElem_toArray, List.getElem_cons_succ, List.getElem_cons_zero, List.setIfInBounds_toArray, List.set_cons_succ, List.set_cons_zero])
      refine HeadAt.takeW (i := 3) (.pointer (some ⟨w.heap.size, 2, none⟩)) rfl (by kernel_rfl) (.inl ⟨rfl, fun _ _ => by simp [go_sem]⟩) S0 ?_
      (try simp only [Act.put, List.getElem_toArray, List.getElem_cons_succ, List.getElem_cons_zero, List.setIfInBounds_toArray, List.set_cons_succ, List.set_cons_zero])
      refine HeadAt.takeW (i := 4) (.int .i64 X.pi) rfl (by kernel_rfl) (.inl ⟨rfl, fun w' z => ?_⟩) S0 ?_
      · (have z0 := (xr.below z).cell 2 rfl; simp [go_sem, z0])
      (try simp only [Act.put, List.getElem_toArray, List.getElem_cons_succ, List.getElem_cons_zero, List.setIfInBounds_toArray, List.set_cons_succ, List.set_cons_zero])
      refine HeadAt.takeW (i := 6) (.int .i64 (lt : Int)) rfl (by kernel_rfl) (.inl ⟨rfl, fun _ _ => by simp [go_sem]⟩) S0 ?_
      (try simp only [Act.put, List.getElem_toArray, List.getElem_cons_succ, List.getElem_cons_zero, List.setIfInBounds_toArray, List.set_cons_succ, List.set_cons_zero])
      refine HeadAt.takeW (i := 8) (.pointer (some ⟨w.heap.size, 4, none⟩)) rfl (by kernel_rfl) (.inl ⟨rfl, fun _ _ => by simp [go_sem]⟩) S0 ?_
      (try simp only [Act.put, List.getElem_toArray, List.getElem_cons_succ, List.getElem_cons_zero, List.setIfInBounds_toArray, List.set_cons_succ, List.set_cons_zero])
      refine HeadAt.takeW (i := 9) (.int .i64 X.ga) rfl (by kernel_rfl) (.inl ⟨rfl, fun w' z => ?_⟩) S0 ?_
      · (have z0 := (xr.below z).cell 4 rfl; simp [go_sem, z0])
      (try simp only [Act.put, List.getElem_toArray, List.getElem_cons_succ, List.getElem_cons_zero, List.setIfInBounds_toArray, List.set_cons_succ, List.set_cons_zero])
      refine HeadAt.takeW (i := 11) (.pointer (some ⟨w.heap.size, 2, none⟩)) rfl (by kernel_rfl) (.inl ⟨rfl, fun _ _ => by simp [go_sem]⟩) S0 ?_
      (try simp only [Act.put, List.getElem_toArray, List.getElem_cons_succ, List.getElem_cons_zero, List.setIfInBounds_toArray, List.set_cons_succ, List.set_cons_zero])
      refine HeadAt.takeW (i := 12) (.int .i64 X.pi) rfl (by kernel_rfl) (.inl ⟨rfl, fun w' z => ?_⟩) S0 ?_
      · (have z0 := (xr.below z).cell 2 rfl; simp [go_sem, z0])
      (try simp only [Act.put, List.getElem_toArray, List.getElem_cons_succ, List.getElem_cons_zero, List.setIfInBounds_toArray, List.set_cons_succ, List.set_cons_zero])
      refine HeadAt.takeW (i := 14) (.int .i64 (nb : Int)) rfl (by kernel_rfl) (.inl ⟨rfl, fun _ _ => by simp [go_sem]⟩) S0 ?_
      (try simp only [Act.put, List.getElem_toArray, List.getElem_cons_succ, List.getElem_cons_zero, List.setIfInBounds_toArray, List.set_cons_succ, List.set_cons_zero])
      refine HeadAt.takeW (i := 19) (.int .i64 0) rfl (by kernel_rfl) (.inl ⟨rfl, fun _ _ => by simp [go_sem]⟩) S0 ?_
      (try simp only [Act.put, List.getElem_toArray, List.getElem_cons_succ, List.getElem_cons_zero, List.setIfInBounds_toArray, List.set_cons_succ, List.set_cons_zero])
      refine HeadAt.rg (f0 := 3) [2, 5, 7, 10, 13, 15] 6 (fun u => { tmps := #[.agg #[.int .i64 X.l, .int .i64 X.n, .int .i64 X.pi, .int .i64 X.sl, .int .i64 X.ga, .int .i64 X.pa, .int .i64 X.sp, .slice aT nT cT], .slice (some ⟨b, off, none⟩) m cL, .int .i64 t, .pointer (some ⟨w.heap.size, 0, none⟩), undef, undef, .slice none 0 0, .slice a p c, .int .i64 q, undef, .int .i64 s, .int .i64 (lt : Int), .int .i64 (nb : Int), undef, u14, .int .i64 t, .pointer (some ⟨w.heap.size, 5, none⟩), .int .i64 X.pa, .int .i64 f, .slice (some ⟨b, off, none⟩) m cL, .int .i64 (m : Int), .int .i64 (k : Int), .bool true, .pointer (some ⟨b, off + k, none⟩), .int .i64 s, .int .i64 s, .pointer (some ⟨w.heap.size, 1, none⟩), .int .i64 X.n, .int .i64 (lt : Int), .int .i64 s, .pointer (some ⟨w.heap.size, 1, none⟩), .int .i64 X.n, .int .i64 (nb : Int), .pointer (some ⟨w.heap.size, 5, none⟩), .int .i64 X.pa, u 2, .pointer (some ⟨w.heap.size, 2, none⟩), .int .i64 X.pi, u 5, .int .i64 (lt : Int), u 7, .pointer (some ⟨w.heap.size, 4, none⟩), .int .i64 X.ga, u 10, .pointer (some ⟨w.heap.size, 2, none⟩), .int .i64 X.pi, u 13, .int .i64 (nb : Int), u 15, u49, u50, u51, .int .i64 0, u53, u54, u55, u56, u57, u58, u59, u60, u61, u62, u63, u64, undef], defers := [] }) (wrP Y0.heap.size X s) (fun | 2 => u35 | 5 => u38 | 7 => u40 | 10 => u43 | 13 => u46 | 15 => u48 | _ => undef) (by kernel_rfl) (fun w1 w2 hh hb' => Below.trans hh (hb'.mono (Below.size hh))) (wrP_below Y0.heap.size X s) ?step ?done S0
      case step =>
        intro i hi o ho u V hS hp
        have hVs := Below.size hS
        simp only [List.mem_cons, List.not_mem_nil, or_false] at hi
        generalize hK : Upto _ _ = K0
        rcases hi with rfl | rfl | rfl | rfl | rfl | rfl
        · cases ho
          clear hp
          skip
          have hb1 := below_one (w := V) (.cells #[.int .i64 X.pa] 3)
          have ho1 := one_iz (B := Y0.heap.size) hVs X.pa (by omega)
          have HH := hid (And.intro hb1 ho1)
          clear hb1 ho1
          go_wp2_with fail
          subst hK
          exact ⟨_, rfl, HH.out.1, some ⟨V.heap.size, 0, none⟩, 1, rfl, HH.out.2⟩
        · cases ho
          clear hp
          skip
          have hb1 := below_one (w := V) (.cells #[.int .i64 X.pi] 3)
          have ho1 := one_iz (B := Y0.heap.size) hVs X.pi (by omega)
          have HH := hid (And.intro hb1 ho1)
          clear hb1 ho1
          go_wp2_with fail
          subst hK
          exact ⟨_, rfl, HH.out.1, some ⟨V.heap.size, 0, none⟩, 1, rfl, HH.out.2⟩
        · cases ho
          obtain ⟨a5, c5, e5, hz5⟩ := hp 5 (by simp) (by kernel_rfl)
          replace e5 : u 5 = .slice a5 1 c5 := e5
          replace hz5 : Iz Y0.heap.size V a5 [X.pi] := hz5
          clear hp
          skip
          obtain ⟨d5, o5, -, rfl, -⟩ := hz5.i.at (k := 0) (by simp)
          have hre := repeat_any d5 o5 c5 X.pi lt hl4 V hz5.i
          have hE : ({ tmps := #[.agg #[.int .i64 X.l, .int .i64 X.n, .int .i64 X.pi, .int .i64 X.sl, .int .i64 X.ga, .int .i64 X.pa, .int .i64 X.sp, .slice aT nT cT], .slice (some ⟨b, off, none⟩) m cL, .int .i64 t, .pointer (some ⟨w.heap.size, 0, none⟩), undef, undef, .slice none 0 0, .slice a p c, .int .i64 q, undef, .int .i64 s, .int .i64 (lt : Int), .int .i64 (nb : Int), undef, u14, .int .i64 t, .pointer (some ⟨w.heap.size, 5, none⟩), .int .i64 X.pa, .int .i64 f, .slice (some ⟨b, off, none⟩) m cL, .int .i64 (m : Int), .int .i64 (k : Int), .bool true, .pointer (some ⟨b, off + k, none⟩), .int .i64 s, .int .i64 s, .pointer (some ⟨w.heap.size, 1, none⟩), .int .i64 X.n, .int .i64 (lt : Int), .int .i64 s, .pointer (some ⟨w.heap.size, 1, none⟩), .int .i64 X.n, .int .i64 (nb : Int), .pointer (some ⟨w.heap.size, 5, none⟩), .int .i64 X.pa, u 2, .pointer (some ⟨w.heap.size, 2, none⟩), .int .i64 X.pi, u 5, .int .i64 (lt : Int), u 7, .pointer (some ⟨w.heap.size, 4, none⟩), .int .i64 X.ga, u 10, .pointer (some ⟨w.heap.size, 2, none⟩), .int .i64 X.pi, u 13, .int .i64 (nb : Int), u 15, u49, u50, u51, .int .i64 0, u53, u54, u55, u56, u57, u58, u59, u60, u61, u62, u63, u64, undef], defers := [] } : Act) = { tmps := #[.agg #[.int .i64 X.l, .int .i64 X.n, .int .i64 X.pi, .int .i64 X.sl, .int .i64 X.ga, .int .i64 X.pa, .int .i64 X.sp, .slice aT nT cT], .slice (some ⟨b, off, none⟩) m cL, .int .i64 t, .pointer (some ⟨w.heap.size, 0, none⟩), undef, undef, .slice none 0 0, .slice a p c, .int .i64 q, undef, .int .i64 s, .int .i64 (lt : Int), .int .i64 (nb : Int), undef, u14, .int .i64 t, .pointer (some ⟨w.heap.size, 5, none⟩), .int .i64 X.pa, .int .i64 f, .slice (some ⟨b, off, none⟩) m cL, .int .i64 (m : Int), .int .i64 (k : Int), .bool true, .pointer (some ⟨b, off + k, none⟩), .int .i64 s, .int .i64 s, .pointer (some ⟨w.heap.size, 1, none⟩), .int .i64 X.n, .int .i64 (lt : Int), .int .i64 s, .pointer (some ⟨w.heap.size, 1, none⟩), .int .i64 X.n, .int .i64 (nb : Int), .pointer (some ⟨w.heap.size, 5, none⟩), .int .i64 X.pa, u 2, .pointer (some ⟨w.heap.size, 2, none⟩), .int .i64 X.pi, .slice (some ⟨d5, o5, none⟩) 1 c5, .int .i64 (lt : Int), u 7, .pointer (some ⟨w.heap.size, 4, none⟩), .int .i64 X.ga, u 10, .pointer (some ⟨w.heap.size, 2, none⟩), .int .i64 X.pi, u 13, .int .i64 (nb : Int), u 15, u49, u50, u51, .int .i64 0, u53, u54, u55, u56, u57, u58, u59, u60, u61, u62, u63, u64, undef], defers := [] } := by rw [e5]
          rw [hE]
          clear hE
          have HE5 := hid e5
          clear e5 hz5
          go_wp2_with fail
          refine hre.mono ?_
          rintro e V1 ⟨hb1, a7, c7, rfl, hz7⟩
          have HZ7 := hid (show wrP Y0.heap.size X s 7 (.slice a7 (List.replicate lt X.pi).length c7) V1 from ⟨a7, c7, by show _ = Value.slice a7 (List.replicate (s / X.n).toNat X.pi).length c7; rw [← HLN.out.1], by show Iz _ _ _ (List.replicate (s / X.n).toNat X.pi); rw [← HLN.out.1]; exact hz7.mono hVs⟩)
          have HB1 := hid hb1
          clear hre hz7 hb1
          go_wp2_with fail
          subst hK
          exact ⟨.slice a7 (List.replicate lt X.pi).length c7, by simp [Act.put, updU, HE5.out], HB1.out, HZ7.out⟩
        · cases ho
          clear hp
          skip
          have hb1 := below_one (w := V) (.cells #[.int .i64 X.ga] 3)
          have ho1 := one_iz (B := Y0.heap.size) hVs X.ga (by omega)
          have HH := hid (And.intro hb1 ho1)
          clear hb1 ho1
          go_wp2_with fail
          subst hK
          exact ⟨_, rfl, HH.out.1, some ⟨V.heap.size, 0, none⟩, 1, rfl, HH.out.2⟩
        · cases ho
          clear hp
          skip
          have hb1 := below_one (w := V) (.cells #[.int .i64 X.pi] 3)
          have ho1 := one_iz (B := Y0.heap.size) hVs X.pi (by omega)
          have HH := hid (And.intro hb1 ho1)
          clear hb1 ho1
          go_wp2_with fail
          subst hK
          exact ⟨_, rfl, HH.out.1, some ⟨V.heap.size, 0, none⟩, 1, rfl, HH.out.2⟩
        · cases ho
          obtain ⟨a5, c5, e5, hz5⟩ := hp 13 (by simp) (by kernel_rfl)
          replace e5 : u 13 = .slice a5 1 c5 := e5
          replace hz5 : Iz Y0.heap.size V a5 [X.pi] := hz5
          clear hp
          skip
          obtain ⟨d5, o5, -, rfl, -⟩ := hz5.i.at (k := 0) (by simp)
          have hre := repeat_any d5 o5 c5 X.pi nb hn4 V hz5.i
          have hE : ({ tmps := #[.agg #[.int .i64 X.l, .int .i64 X.n, .int .i64 X.pi, .int .i64 X.sl, .int .i64 X.ga, .int .i64 X.pa, .int .i64 X.sp, .slice aT nT cT], .slice (some ⟨b, off, none⟩) m cL, .int .i64 t, .pointer (some ⟨w.heap.size, 0, none⟩), undef, undef, .slice none 0 0, .slice a p c, .int .i64 q, undef, .int .i64 s, .int .i64 (lt : Int), .int .i64 (nb : Int), undef, u14, .int .i64 t, .pointer (some ⟨w.heap.size, 5, none⟩), .int .i64 X.pa, .int .i64 f, .slice (some ⟨b, off, none⟩) m cL, .int .i64 (m : Int), .int .i64 (k : Int), .bool true, .pointer (some ⟨b, off + k, none⟩), .int .i64 s, .int .i64 s, .pointer (some ⟨w.heap.size, 1, none⟩), .int .i64 X.n, .int .i64 (lt : Int), .int .i64 s, .pointer (some ⟨w.heap.size, 1, none⟩), .int .i64 X.n, .int .i64 (nb : Int), .pointer (some ⟨w.heap.size, 5, none⟩), .int .i64 X.pa, u 2, .pointer (some ⟨w.heap.size, 2, none⟩), .int .i64 X.pi, u 5, .int .i64 (lt : Int), u 7, .pointer (some ⟨w.heap.size, 4, none⟩), .int .i64 X.ga, u 10, .pointer (some ⟨w.heap.size, 2, none⟩), .int .i64 X.pi, u 13, .int .i64 (nb : Int), u 15, u49, u50, u51, .int .i64 0, u53, u54, u55, u56, u57, u58, u59, u60, u61, u62, u63, u64, undef], defers := [] } : Act) = { tmps := #[.agg #[.int .i64 X.l, .int .i64 X.n, .int .i64 X.pi, .int .i64 X.sl, .int .i64 X.ga, .int .i64 X.pa, .int .i64 X.sp, .slice aT nT cT], .slice (some ⟨b, off, none⟩) m cL, .int .i64 t, .pointer (some ⟨w.heap.size, 0, none⟩), undef, undef, .slice none 0 0, .slice a p c, .int .i64 q, undef, .int .i64 s, .int .i64 (lt : Int), .int .i64 (nb : Int), undef, u14, .int .i64 t, .pointer (some ⟨w.heap.size, 5, none⟩), .int .i64 X.pa, .int .i64 f, .slice (some ⟨b, off, none⟩) m cL, .int .i64 (m : Int), .int .i64 (k : Int), .bool true, .pointer (some ⟨b, off + k, none⟩), .int .i64 s, .int .i64 s, .pointer (some ⟨w.heap.size, 1, none⟩), .int .i64 X.n, .int .i64 (lt : Int), .int .i64 s, .pointer (some ⟨w.heap.size, 1, none⟩), .int .i64 X.n, .int .i64 (nb : Int), .pointer (some ⟨w.heap.size, 5, none⟩), .int .i64 X.pa, u 2, .pointer (some ⟨w.heap.size, 2, none⟩), .int .i64 X.pi, u 5, .int .i64 (lt : Int), u 7, .pointer (some ⟨w.heap.size, 4, none⟩), .int .i64 X.ga, u 10, .pointer (some ⟨w.heap.size, 2, none⟩), .int .i64 X.pi, .slice (some ⟨d5, o5, none⟩) 1 c5, .int .i64 (nb : Int), u 15, u49, u50, u51, .int .i64 0, u53, u54, u55, u56, u57, u58, u59, u60, u61, u62, u63, u64, undef], defers := [] } := by rw [e5]
          rw [hE]
          clear hE
          have HE5 := hid e5
          clear e5 hz5
          go_wp2_with fail
          refine hre.mono ?_
          rintro e V1 ⟨hb1, a7, c7, rfl, hz7⟩
          have HZ7 := hid (show wrP Y0.heap.size X s 15 (.slice a7 (List.replicate nb X.pi).length c7) V1 from ⟨a7, c7, by show _ = Value.slice a7 (List.replicate (s % X.n).toNat X.pi).length c7; rw [← HLN.out.2], by show Iz _ _ _ (List.replicate (s % X.n).toNat X.pi); rw [← HLN.out.2]; exact hz7.mono hVs⟩)
          have HB1 := hid hb1
          clear hre hz7 hb1
          go_wp2_with fail
          subst hK
          exact ⟨.slice a7 (List.replicate nb X.pi).length c7, by simp [Act.put, updU, HE5.out], HB1.out, HZ7.out⟩
      case done =>
        intro u V hS hF
        obtain ⟨a2, c2, e2, z2⟩ := hF 2 (by simp)
        obtain ⟨a7, c7, e7, z7⟩ := hF 7 (by simp)
        obtain ⟨a10, c10, e10, z10⟩ := hF 10 (by simp)
        obtain ⟨a15, c15, e15, z15⟩ := hF 15 (by simp)
        replace e2 : u 2 = .slice a2 1 c2 := e2
        replace e7 : u 7 = .slice a7 lt c7 := by rw [e7]; show Value.slice a7 (List.replicate (s / X.n).toNat X.pi).length c7 = _; rw [List.length_replicate, ← HLN.out.1]
        replace e10 : u 10 = .slice a10 1 c10 := e10
        replace e15 : u 15 = .slice a15 nb c15 := by rw [e15]; show Value.slice a15 (List.replicate (s % X.n).toNat X.pi).length c15 = _; rw [List.length_replicate, ← HLN.out.2]
        have hVs := Below.size hS
        obtain ⟨V1, hV1⟩ : ∃ V1, V1 = V.alloc (.cells #[.slice a2 1 c2, .slice a7 lt c7, .slice a10 1 c10, .slice a15 nb c15] 22) := ⟨_, rfl⟩
        have hb1 : Below V.heap.size V V1 := by rw [hV1]; exact below_one (w := V) _
        have hx1 : Bx V1 V.heap.size #[.slice a2 1 c2, .slice a7 lt c7, .slice a10 1 c10, .slice a15 nb c15] 22 := by rw [hV1]; exact Bx.new V _ 22
        have hcc : Calls Try.prog 79 #[.slice (some ⟨V.heap.size, 0, none⟩) 4 4] V1 (CcP (dsL X s) V1) :=
          concat_any (some ⟨V.heap.size, 0, none⟩) 4 (dsR X s) V1 (dsR_lsr HLN.out.1 HLN.out.2 hx1 (z2.i.below hb1 (Nat.le_refl _)) (z7.i.below hb1 (Nat.le_refl _)) (z10.i.below hb1 (Nat.le_refl _)) (z15.i.below hb1 (Nat.le_refl _))) (by show 4 ≤ 100; decide) (by show (dsL X s).length ≤ 1000; omega) (fun x hx => by have := hd2 x hx; omega) (dsL X s) rfl
        have S1 : BlS Y0 V1 := Below.trans hS (hb1.mono hVs)
        have hV1s := Below.size S1
        clear hF hx1 hb1 z2 z7 z10 z15
        (try simp only [Act.put, List.getElem_toArray, List.getElem_cons_succ, List.getElem_cons_zero, List.setIfInBounds_toArray, List.set_cons_succ, List.set_cons_zero])
        rw [e2, e7, e10, e15]
        clear e2 e7 e10 e15
        generalize u 5 = u38
        generalize u 13 = u46
        clear u
        generalize hDL : dsL X s = DL at *
        obtain ⟨nd, hnd⟩ : ∃ nd, nd = DL.length := ⟨_, rfl⟩
        rw [← hnd] at hd1
        have HND := hid hnd
        have HDL := hid hDL
        have HV1 := hid hV1
        clear hnd hDL hV1
        skip
        refine HeadAt.one (i := 16) rfl (by kernel_rfl) ?_
        generalize hK : Upto _ _ = K0
        (try simp only [Act.put, List.getElem_toArray, List.getElem_cons_succ, List.getElem_cons_zero, List.setIfInBounds_toArray, List.set_cons_succ, List.set_cons_zero])
        go_wp2_with fail
        rw [← HV1.out]
        subst hK
        refine ⟨S1, ?_⟩
        (try simp only [Act.put, List.getElem_toArray, List.getElem_cons_succ, List.getElem_cons_zero, List.setIfInBounds_toArray, List.set_cons_succ, List.set_cons_zero])
        generalize V.heap.size = gv at *
        clear HV1
        refine HeadAt.one (i := 17) rfl (by kernel_rfl) ?_
        generalize hK : Upto _ _ = K0
        (try simp only [Act.put, List.getElem_toArray, List.getElem_cons_succ, List.getElem_cons_zero, List.setIfInBounds_toArray, List.set_cons_succ, List.set_cons_zero])
        go_wp2_with fail
        refine hcc.mono ?_
        rintro e V2 ⟨hb2, aD, cD, rfl, hzD⟩
        rw [← HND.out]
        have S2 : BlS Y0 V2 := Below.trans S1 (hb2.mono hV1s)
        replace S0 : BlS Y0 V2 := S2
        have HZD := hid hzD
        have HV1s := hid hV1s
        clear hcc hzD hb2 hV1s S1 hVs
        go_wp2_with fail
        subst hK
        refine ⟨S2, ?_⟩
        (try simp only [Act.put, List.getElem_toArray, List.getElem_cons_succ, List.getElem_cons_zero, List.setIfInBounds_toArray, List.set_cons_succ, List.set_cons_zero])
        refine HeadAt.takeW (i := 18) (.int .i64 (nd : Int)) rfl (by kernel_rfl) (.inl ⟨rfl, fun _ _ => by simp [go_sem]⟩) S0 ?_
        (try simp only [Act.put, List.getElem_toArray, List.getElem_cons_succ, List.getElem_cons_zero, List.setIfInBounds_toArray, List.set_cons_succ, List.set_cons_zero])
        refine HeadAt.done (by kernel_rfl) ?_
        (try simp only [Act.put, List.drop_succ_cons, List.drop_zero, List.getElem_toArray, List.getElem_cons_succ, List.getElem_cons_zero])
        go_wp2_with fail
        refine NoPanic.normal ?_
        obtain ⟨hown, hbr, hw⟩ := HX2.out
        have hoff : Hid (∀ ad : Addr, aD = some ad → (Value.slice a p c).ownBlock ≠ some ad.block) := hid fun ad e hh => by
          have h1 := own_ltI hown _ hh
          have h2 := HZD.out.b ad e
          have h3 := HV1s.out
          omega
        replace hown := own_below2 hown S2
        replace hbr := hbr.trans (Below.mono S2 hbr.size)
        replace hw := hw.trans (Below.mono S2 hw.size)
        have hzD := HZD.out
        clear HZD HX2 S2 S0 hS
        go_wp2
        go_loopw [7, 8, 14, 52] (fun v7 v8 v14 v52 wr => ∃ (k2 p2 : Nat) (a : Option Addr) (c : Nat) (q : Int), k2 ≤ nd ∧ v52 = .int .i64 (k2 : Int) ∧ v7 = .slice a p2 c ∧ v8 = .int .i64 q ∧ Hid (p2 = p + k2 ∧ q = sumL f (alD X (L.take k) ++ DL.take k2)) ∧ wr.ownsRow W.heap.size 3 1 (.slice a p2 c) p2 ((accL f (alD X (L.take k) ++ DL.take k2)).map (Value.int .i64)) ∧ Hid (∀ ad : Addr, aD = some ad → (Value.slice a p2 c).ownBlock ≠ some ad.block) ∧ Iz V1.heap.size wr aD DL ∧ Below W.heap.size W wr ∧ Below w.heap.size w wr) (fun _ _ _ v52 _ => nd - (intOf v52).toNat)
        case atStart => exact ⟨0, p, a, c, q, Nat.zero_le _, rfl, rfl, rfl, hid ⟨rfl, by simpa using HP.out.2⟩, by simpa using hown, hoff, hzD, hbr, hw⟩
        case round =>
          clear hown hbr hw hoff hzD
          obtain ⟨k2, p2, a, c, q2, hk2, rfl, rfl, rfl, HP2, hown, hoff, hzD, hbr, hw⟩ := hrel
          by_cases hlt2 : k2 < nd
          · obtain ⟨b2, off2, d, rfl, hbl2, hc2, _, _, hg2, _⟩ := hzD.i.at (k := k2) (by rw [← HND.out]; exact hlt2)
            have hdm := hd2 d (get_mem hg2.out)
            have hacc : Hid (alD X (L.take k) ++ DL.take (k2 + 1) = (alD X (L.take k) ++ DL.take k2) ++ [d]) := hid (by rw [List.take_add_one, hg2.out, List.append_assoc]; rfl)
            have hq2 : -999 ≤ q2 ∧ q2 ≤ 999999 := by
              have h1 := sumL_rng (alD X (L.take k) ++ DL.take k2) f (fun x hx => (List.mem_append.1 hx).elim (hal.2 x) (fun h => hd2 x (List.mem_of_mem_take h)))
              rw [← HP2.out.2, List.length_append] at h1
              have h2 := hal.1
              have h3 : (L.take k).length ≤ 24 := by rw [List.length_take, ← HM.out]; omega
              have h4 : (DL.take k2).length ≤ 10 := by rw [List.length_take, ← HND.out]; omega
              omega
            have hp2 : p2 ≤ 250 := by
              have h1 := HP.out.1
              have h2 := HP2.out.1
              have h3 : (L.take k).length ≤ 24 := by rw [List.length_take, ← HM.out]; omega
              have h4 := hal.1
              omega
            obtain ⟨x, hx⟩ : ∃ x, x = q2 + d := ⟨_, rfl⟩
            have ewx : IntKind.i64.wrap (q2 + d) = x := by rw [hx]; exact IntWalk.i64_in _ (by omega)
            have hxr : -999 ≤ x ∧ x ≤ 1000998 := by omega
            have HXE := hid hx
            have hk2I : (k2 : Int) < nd := by omega
            have hk20 : (0 : Int) ≤ (k2 : Int) := by omega
            have hwz := hw.size
            have hbz := hbr.size
            clear hx hg2 hbl2
            go_wp2_with (at_builtin; go_loud (refine wpList_append_own_at _ rfl _ _ 22 rfl W.heap.size 3 j0 (.int .i64 0) 1 8 under22 hj0 jz0 jz1 jz2 rfl (by decide) (.slice a p2 c) p2 _ rfl (hown.alloc _) ⟨wr.heap.size, 0, none⟩ 1 1 [.int .i64 x] rfl rfl (cell_one_new _ _ _) (ints_oneCell .i64 [x]) (by unfold maxLen; omega) (by omega) (by simp; omega) ?_); intro v2 W2 hrow2 hg3 _ hat)
            obtain ⟨a3, c3, rfl⟩ := own_slice2 hrow2
            have hba := below_one (w := wr) (.cells #[.int .i64 x] 3)
            have hWb : Below W.heap.size W W2 := (hbr.trans (hba.mono hbz)).grown hg3 (by simp; omega) (own_ge hown)
            have hwb : Below w.heap.size w W2 := hb.trans (hWb.mono hbw)
            have hrow3 : W2.ownsRow W.heap.size 3 1 (.slice a3 (p2 + 1) c3) (p2 + 1) ((accL f (alD X (L.take k) ++ DL.take (k2 + 1))).map (Value.int .i64)) := by
              rw [hacc.out, accL_snoc, ← HP2.out.2, ← HXE.out]
              simpa using hrow2
            have hzl := hzD.lt
            have hoff3 := hid (show ∀ ad : Addr, some (⟨b2, off2, none⟩ : Addr) = some ad → (Value.slice a3 (p2 + 1) c3).ownBlock ≠ some ad.block from fun ad e hh => by
              rcases hat with h1 | h1
              · exact hoff.out ad e (h1 ▸ hh)
              · rw [h1] at hh
                have := hzl ad e
                injection hh with hh
                simp at hh
                omega)
            have hzD3 : Iz V1.heap.size W2 (some ⟨b2, off2, none⟩) DL := (hzD.below hba).of hg3.size (fun ad vs z e hh => by
              rw [hg3.block _ (Array.getElem?_eq_some_iff.1 hh).1 (fun e2 => hoff.out ad e e2.symm)]; exact hh)
            have hs3 := hid (show p2 + 1 = p + (k2 + 1) ∧ x = sumL f (alD X (L.take k) ++ DL.take (k2 + 1)) from ⟨by have := HP2.out.1; omega, by rw [hacc.out, sumL_snoc, ← HP2.out.2, HXE.out]⟩)
            clear hown hbr hw hoff hzD hba hg3 hat hrow2 hzl HP2 hacc
            go_wp2
            go_roundw
            case rel => exact ⟨k2 + 1, p2 + 1, a3, c3, x, by omega, by go_num, rfl, rfl, hs3, hrow3, hoff3, hzD3, hWb, hwb⟩
            case measure => simp [intOf]; omega
          · have hkn : k2 = nd := by omega
            have hnI : ¬ (k2 : Int) < (nd : Int) := by omega
            have htk : DL.take k2 = DL := by rw [hkn, HND.out, List.take_length]
            rw [htk, ← hst] at hown
            have hs4 := hid (show p2 = (alD X (L.take (k + 1))).length ∧ q2 = sumL f (alD X (L.take (k + 1))) from ⟨by rw [hst, List.length_append, ← HND.out, ← HP.out.1, HP2.out.1, hkn], by rw [hst, HP2.out.2, htk]⟩)
            clear hkn htk HP2 hoff hzD
            go_wp2
            go_roundw
            case rel => exact ⟨k + 1, p2, a, c, q2, by omega, by go_num, rfl, rfl, hs4, hown, hbr⟩
            case measure => simp [intOf]; omega
    · have hkm : k = m := by omega
      have hkI : ¬ (k : Int) < (m : Int) := by omega
      have htk : L.take k = L := by rw [hkm, HM.out, List.take_length]
      rw [htk, ← HWR.out] at hown
      have hpl : p = WR.length := by rw [HWR.out, accL_len, ← htk]; exact HP.out.1
      have hrg : ∀ x ∈ WR, -9223372036854775808 ≤ x ∧ x ≤ 9223372036854775807 := fun x hx => by
        have h1 := HAL.out k
        rw [htk] at h1
        rw [HWR.out] at hx
        have h2 := accL_rng (alD X L) f h1.2 x hx
        have h3 := h1.1
        rw [← HM.out] at h3
        omega
      have hll : WR.length ≤ 9223372036854775807 := by
        have h1 := (HAL.out k).1
        rw [htk, ← HM.out] at h1
        rw [HWR.out, accL_len]
        omega
      have HZ := hid ((own_nw hown hpl hll hrg).1.mono hbw)
      have HPL := hid hpl
      have hwF := hb.trans (hbr.mono hbw)
      clear hkm htk hpl hrg hll hown HP
      go_wp2
      go_ret
      exact ⟨hwF, a, c, by rw [HPL.out]; rfl, HZ.out⟩
end Go.Proofs.Yteianfbdhakhpaa
