import Derived.Test.YthgjjlkdekfdbaaT28
import Derived.Test.YthgjjlkdekfdbaaT15
/-! The reference's Best. -/
namespace Go.Proofs.Ythgjjlkdekfdbaa
set_option linter.unusedSimpArgs false
set_option linter.unusedVariables false
open Go Go.RowKit

def RowsL (w : World) (a : Option Addr) (LL : List (List Int)) : Prop := ∀ (k : Nat) (ks : List Int), LL[k]? = some ks → ∃ (b o : Nat) (x : Option Addr) (c : Nat), a = some ⟨b, o, none⟩ ∧ w.cell? ⟨b, o + k, none⟩ = some (.slice x ks.length c) ∧ Ints w x ks
theorem RowsL.below {w w' : World} {a : Option Addr} {LL : List (List Int)} (h : RowsL w a LL) (hb : Below w.heap.size w w') : RowsL w' a LL := fun k ks hk => by
  obtain ⟨b, o, x, c, h1, h2, h3⟩ := h k ks hk
  exact ⟨b, o, x, c, h1, Below.keep hb h2, h3.below hb (Nat.le_refl _)⟩
theorem Orders_any (n : Nat) (h5 : n ≤ 5) (w : World) : Calls Try.prog 64 #[.int .i64 (n : Int), .slice none 0 0] w fun e w' => ∃ (a : Option Addr) (c : Nat), e = .returned (.slice a (ordsA n).length c) ∧ RowsL w' a (ordsA n) ∧ Below w.heap.size w w' := by
  have := orders_rec n h5 n [] none 0 w 0 ⟨by simp, by simp, fun i hi => by simp at hi⟩ (by simp) (by simp) (Nat.zero_le _) (fun ad e => by cases e)
  refine this.mono ?_
  rintro e w' ⟨hb, a, c, vs, rfl, hown, hrw⟩
  refine ⟨a, c, rfl, fun k ks hk => ?_, hb⟩
  obtain ⟨x, hx, a2, c2, rfl, hI, _⟩ := hrw.at k ks hk
  obtain ⟨b, o, rfl, _, hc⟩ := Cls.of_own2 hown k _ hx
  exact ⟨b, o, a2, c2, rfl, hc, hI⟩

/-- The place of the best of the first k, and what the owner gets then. -/
def BJ (LL : List (List Int)) (f : List Int → Int) (k j : Nat) (o : Int) : Prop :=
  o = (bestL f (LL.take k)).2 ∧ ((k = 0 ∧ j = 0) ∨ (j < k ∧ LL[j]? = some (bestL f (LL.take k)).1))
theorem BJ.start (LL : List (List Int)) (f : List Int → Int) : BJ LL f 0 0 (-1) := ⟨rfl, .inl ⟨rfl, rfl⟩⟩
theorem take_at {LL : List (List Int)} {k : Nat} {os : List Int} (hk : LL[k]? = some os) : LL.take (k + 1) = LL.take k ++ [os] := by
  rw [List.take_add_one, hk]; rfl
theorem BJ.yes {LL : List (List Int)} {f : List Int → Int} {k j : Nat} {o : Int} {os : List Int} (h : BJ LL f k j o) (hk : LL[k]? = some os) (hlt : o < f os) : BJ LL f (k + 1) k (f os) := by
  unfold BJ
  rw [take_at hk, bestL_snoc]
  unfold visO
  rw [← h.1, if_pos hlt]
  exact ⟨rfl, .inr ⟨by omega, hk⟩⟩
theorem BJ.no {LL : List (List Int)} {f : List Int → Int} {k j : Nat} {o : Int} {os : List Int} (h : BJ LL f k j o) (hk : LL[k]? = some os) (hlt : ¬ o < f os) (h0 : 0 ≤ f os) : BJ LL f (k + 1) j o := by
  unfold BJ
  rw [take_at hk, bestL_snoc]
  unfold visO
  rw [← h.1, if_neg hlt]
  rcases h.2 with ⟨rfl, rfl⟩ | ⟨h1, h2⟩
  · have := h.1
    simp [bestL] at this
    omega
  · exact ⟨h.1, .inr ⟨by omega, h2⟩⟩
theorem BJ.fin {LL : List (List Int)} {f : List Int → Int} {j : Nat} {o : Int} (h : BJ LL f LL.length j o) (h0 : LL ≠ []) : LL[j]? = some (bestL f LL).1 := by
  unfold BJ at h
  rw [List.take_length] at h
  rcases h.2 with ⟨h1, _⟩ | ⟨_, h2⟩
  · exact absurd (List.eq_nil_of_length_eq_zero h1) h0
  · exact h2
theorem ordsA_ne : ∀ n : Nat, n ≤ 5 → ordsA n ≠ [] := by
  have : ∀ n : Fin 6, (ordsA n.val).isEmpty = false := by decide +kernel
  intro n hn h
  have := this ⟨n, by omega⟩
  simp only [h, List.isEmpty_nil] at this
  cases this

set_option maxRecDepth 100000 in
set_option maxHeartbeats 2000000 in
theorem refBest_bad (ac : Option Addr) (cc : Nat) (cs : List Cl) (L : Int) (t : Int) (w : World) (hX : Clz w ac cs) (r : Int) (hr : r = askE cs L (cenB t)) (h0 : r ≠ 0) : Calls Try.prog 33 #[.agg #[.slice ac cs.length cc, .int .i64 L], .int .i64 t] w fun e w' => e = .returned (.tuple #[.slice none 0 0, .int .i64 r]) ∧ Below w.heap.size w w' := by
  obtain ⟨W, hW, hb, hs, x0⟩ := boxes1 w #[.slice ac cs.length cc, .int .i64 L] 24
  have hX1 := hX.below hb (Nat.le_refl _)
  have h1 := fun (q : Ext W) => (IsCents_any t q.w).mono (fun e w' h => And.intro h.1 (Below.of_eq (B := q.w.heap.size) h.2))
  have h2 := fun (q : Ext W) => ask_any ac cc cs L (cenB t) q.w (hX1.below q.below (Nat.le_refl _))
  rw [← hr] at h2
  generalize cenB t = o at *
  have c0 := x0.ext 0 rfl; have c1 := x0.ext 1 rfl
  clear hr hX hX1 x0 hs
  go_enter Try.func33, Try.ntmps33
  go_upto_region 1 with fail
  clear hW
  refine wp_region_ext_lit (by kernel_rfl) (by kernel_rfl) ?_
  repeat (quiet_step (first | (go_at_call 39; exact quiet_ext (h1 _)) | (go_at_call 53; exact quiet_ext (h2 _))))
  refine wpQuiet_nil ?_
  intro _ hw'
  obtain ⟨tt, rfl⟩ := hw'
  have hbt := tt.below
  clear c0 c1 h1 h2
  go_wp2
  go_ret2
  exact ⟨rfl, hb.trans (hbt.mono hb.size)⟩

def bestS (wr : World) (s0 : Nat) (vs : Array Value) (p : Addr) (v : Value) (w' : World) : Prop := Bx w' s0 vs 24 ∧ Below wr.heap.size wr w' ∧ w'.cell? p = some v
theorem bestS_below {wr : World} {s0 : Nat} {vs : Array Value} {p : Addr} {v : Value} {w1 w2 : World} (h : bestS wr s0 vs p v w1) (hb : Below w1.heap.size w1 w2) : bestS wr s0 vs p v w2 :=
  ⟨h.1.below hb, h.2.1.trans (hb.mono h.2.1.size), Below.keep hb h.2.2⟩
def bestF (wr : World) (m : Nat) (L t : Int) (u : Wk) : Nat → Value → World → Prop
  | 5, v, w => ∃ (a : Option Addr) (c : Nat), v = .agg #[.slice a m c, .int .i64 L] ∧ ∀ V2, Below w.heap.size w V2 → Calls Try.prog 54 #[.agg #[.slice a m c, .int .i64 L], .int .i64 t, .int .i64 0] V2 fun e w'' => ∃ (a9 : Option Addr) (c9 : Nat), e = .returned (.tuple #[.slice a9 m c9, .agg #[.int .i64 u.op, .int .i64 u.ow, .int .i64 u.rp]]) ∧ Below V2.heap.size V2 w''
  | 7, v, _ => ∃ (a : Option Addr) (c : Nat), v = .tuple #[.slice a m c, .agg #[.int .i64 u.op, .int .i64 u.ow, .int .i64 u.rp]]
  | 8, v, _ => ∃ (a : Option Addr) (c : Nat), v = .tuple #[.slice a m c, .agg #[.int .i64 u.op, .int .i64 u.ow, .int .i64 u.rp]]
  | 9, v, _ => ∃ (a : Option Addr) (c : Nat), v = .slice a m c
  | 10, v, _ => v = .agg #[.int .i64 u.op, .int .i64 u.ow, .int .i64 u.rp]
  | 12, v, _ => ∃ (a : Option Addr) (c : Nat), v = .slice a m c
  | _, v, w => ∃ b : Nat, v = .pointer (some ⟨b, 0, none⟩) ∧ wr.heap.size ≤ b ∧ Bx w b #[.int .i64 0, .int .i64 0, .int .i64 0] 33
theorem bestF_below (wr : World) (m : Nat) (L t : Int) (u : Wk) (j : Nat) (v : Value) (w1 w2 : World) (h : bestF wr m L t u j v w1) (hb : Below w1.heap.size w1 w2) : bestF wr m L t u j v w2 := by
  unfold bestF at h ⊢
  split at h
  · obtain ⟨a, c, h1, h2⟩ := h
    exact ⟨a, c, h1, fun V2 h => h2 V2 (hb.trans (h.mono hb.size))⟩
  · exact h
  · exact h
  · exact h
  · exact h
  · exact h
  · obtain ⟨b, h1, h2, h3⟩ := h
    exact ⟨b, h1, h2, h3.below hb⟩

set_option maxRecDepth 100000 in
set_option maxHeartbeats 6000000 in
theorem refBest_ok (ac : Option Addr) (cc : Nat) (cs : List Cl) (L : Int) (t : Int) (w : World) (hX : Clz w ac cs) (h : shB cs L = true) (ht : cenB t = true) (bo : List Int) (hbo : bo = bestO L cs t) : Calls Try.prog 33 #[.agg #[.slice ac cs.length cc, .int .i64 L], .int .i64 t] w fun e w' => ∃ (a : Option Addr) (c : Nat), e = .returned (.tuple #[.slice a bo.length c, .int .i64 0]) ∧ Ints w' a bo ∧ Below w.heap.size w w' := by
  obtain ⟨W, hW, hb, hs, x0⟩ := boxes1 w #[.slice ac cs.length cc, .int .i64 L] 24
  have hX1 := hX.below hb (Nat.le_refl _)
  have h1 := fun (q : Ext W) => (IsCents_any t q.w).mono (fun e w' h => And.intro h.1 (Below.of_eq (B := q.w.heap.size) h.2))
  have h2 := fun (q : Ext W) => ask_any ac cc cs L (cenB t) q.w (hX1.below q.below (Nat.le_refl _))
  have ha : askE cs L (cenB t) = 0 := by unfold askE; rw [h, ht]; rfl
  have ho := Ok.of h ht
  have h5 : cs.length ≤ 5 := (shB_ok h).1
  rw [ha] at h2
  generalize cenB t = o at *
  have hOr := fun V => Orders_any cs.length h5 V
  have hne := ordsA_ne cs.length h5
  have hNb : (ordsA cs.length).length ≤ 3125 := by
    have h1 := ordsR_len cs.length cs.length []
    have h2 : cs.length ^ cs.length ≤ 5 ^ 5 := Nat.le_trans (Nat.pow_le_pow_left h5 _) (Nat.pow_le_pow_right (n := 5) (by omega) h5)
    have h3 : (5 : Nat) ^ 5 = 3125 := by decide
    unfold ordsA
    omega
  have hq : ∀ ks ∈ ordsA cs.length, ∃ (u : Wk) (m : Nat), u.ow = ownO L cs t ks ∧ 0 ≤ u.ow ∧ ∀ (V : World) (x : Option Addr) (c : Nat), Clz V ac cs → Ints V x ks →
      Calls Try.prog 44 #[.agg #[.slice ac cs.length cc, .int .i64 L], .slice x ks.length c] V fun e w' => ∃ (a' : Option Addr) (c' : Nat), e = .returned (.agg #[.slice a' m c', .int .i64 L]) ∧ Below V.heap.size V w' ∧
        ∀ V2, Below w'.heap.size w' V2 → Calls Try.prog 54 #[.agg #[.slice a' m c', .int .i64 L], .int .i64 t, .int .i64 0] V2 fun e w'' => ∃ (a9 : Option Addr) (c9 : Nat), e = .returned (.tuple #[.slice a9 m c9, .agg #[.int .i64 u.op, .int .i64 u.ow, .int .i64 u.rp]]) ∧ Below V2.heap.size V2 w'' := by
    intro ks hks
    obtain ⟨h1, h2⟩ := ordsA_ok hks
    have hoo : Ok (ordC cs ks) L t := ⟨ordC_ok ho.cs h2, ho.L, ho.t⟩
    refine ⟨settledW L (ordC cs ks) t, (ordC cs ks).length, rfl, hoo.fin.ow, fun V x c hV hI => ?_⟩
    refine (refOrdered_any ac cc cs L x c ks (by omega) h2 V hV hI).mono ?_
    rintro e w' ⟨a', c', rfl, hC, hb⟩
    refine ⟨a', c', rfl, hb, fun V2 hV2 => ?_⟩
    refine (Gone0_any a' c' (ordC cs ks) L t hoo (by simp only [ordC, List.length_map]; omega) V2 (hC.below hV2 (Nat.le_refl _)) _ rfl).mono ?_
    rintro e w'' ⟨a9, c9, rfl, _, hb9⟩
    exact ⟨a9, c9, rfl, hb9⟩
  have hHP : bo = (bestL (ownO L cs t) (ordsA cs.length)).1 := hbo
  have HB0 := BJ.start (ordsA cs.length) (ownO L cs t)
  have HBY := fun k j o os h1 h2 h3 => BJ.yes (LL := ordsA cs.length) (f := ownO L cs t) (k := k) (j := j) (o := o) (os := os) h1 h2 h3
  have HBN := fun k j o os h1 h2 h3 h4 => BJ.no (LL := ordsA cs.length) (f := ownO L cs t) (k := k) (j := j) (o := o) (os := os) h1 h2 h3 h4
  have HBF := fun j o h1 => BJ.fin (LL := ordsA cs.length) (f := ownO L cs t) (j := j) (o := o) h1 hne
  rw [← hHP] at HBF
  generalize ownO L cs t = f at *
  generalize BJ = P at *
  have c0 := x0.ext 0 rfl; have c1 := x0.ext 1 rfl
  have hX0 := hX
  clear hbo h ht hX hs ha hHP ho hX1
  obtain ⟨n, hn⟩ : ∃ n, n = cs.length := ⟨_, rfl⟩
  rw [← hn] at x0 h2 hW c0 hOr hq HB0 HBY HBN HBF hne h5 hNb ⊢
  generalize ordsA n = XS at *
  clear hn
  go_enter Try.func33, Try.ntmps33
  go_upto_region 1 with fail
  clear hW
  refine wp_region_ext_lit (by kernel_rfl) (by kernel_rfl) ?_
  repeat (quiet_step (first | (go_at_call 39; exact quiet_ext (h1 _)) | (go_at_call 53; exact quiet_ext (h2 _))))
  refine wpQuiet_nil ?_
  intro _ hw'
  obtain ⟨tt, rfl⟩ := hw'
  have hbt := tt.below
  clear c0 c1 h1 h2
  replace x0 := x0.below hbt
  replace hb := hb.trans (hbt.mono hb.size)
  clear hbt
  generalize tt.w = V2 at *
  have c0 := x0.cell 0 rfl; have c1 := x0.cell 1 rfl
  obtain ⟨N, hN⟩ : ∃ N, N = XS.length := ⟨_, rfl⟩
  rw [← hN] at hOr HBF hNb
  have HN := hid hN
  clear hN hne
  go_wp2_with fail
  refine (hOr _).mono ?_
  rintro e V3 ⟨aR, cR, rfl, hR, hb1⟩
  replace x0 := x0.below hb1
  replace hb := hb.trans (hb1.mono hb.size)
  have hR0 := fun V hv => RowsL.below (w' := V) hR hv
  have hb3 := Below.refl V3.heap.size V3
  clear c0 c1 hb1 hOr hR
  go_wp2
  go_loopw [8, 9, 10, 11, 12] (fun v8 v9 v10 v11 v12 wr => ∃ (k j : Nat) (o : Int), k ≤ N ∧ v10 = .int .i64 (k : Int) ∧ v8 = .int .i64 (j : Int) ∧ v9 = .int .i64 o ∧ Hid (P XS f k j o) ∧ Bx wr w.heap.size #[.slice ac n cc, .int .i64 L] 24 ∧ Below V3.heap.size V3 wr ∧ Below w.heap.size w wr) (fun _ _ v10 _ _ _ => N - (intOf v10).toNat)
  case atStart => exact ⟨0, 0, -1, Nat.zero_le _, rfl, rfl, rfl, hid HB0, x0, hb3, hb⟩
  case round =>
    clear x0 hb hb3
    obtain ⟨k, j, o2, hk, rfl, rfl, rfl, HP, x0, hb3, hb⟩ := hrel
    have hRw := hR0 wr hb3
    by_cases hlt : k < N
    · have hkI : (k : Int) < (N : Int) := by omega
      have hk0 : (0 : Int) ≤ (k : Int) := by omega
      have hks : XS[k]? = some (XS[k]'(by rw [← HN.out]; exact hlt)) := List.getElem?_eq_getElem _
      have hksm := List.getElem_mem (l := XS) (n := k) (by rw [← HN.out]; exact hlt)
      generalize XS[k]'(by rw [← HN.out]; exact hlt) = ks at *
      obtain ⟨bR, oR, x, cx, rfl, hcR, hIx⟩ := hRw k ks hks
      obtain ⟨u, m, hu, hu0, hcall⟩ := hq ks hksm
      have HU := hid hu
      have HU0 := hid hu0
      clear hu hu0
      go_upto_region 9 with fail
      have hbd := (Below.refl wr.heap.size wr).drew
      have hbw := hb.trans (hbd.mono hb.size)
      have hb3w := hb3.trans (hbd.mono hb3.size)
      have hXd : Clz wr.drew ac cs := hX0.below hbw (Nat.le_refl _)
      have S0 : bestS wr.drew w.heap.size #[.slice ac n cc, .int .i64 L] ⟨bR, oR + k, none⟩ (.slice x ks.length cx) wr.drew := ⟨x0.below hbd, Below.refl _ _, Below.keep hbd hcR⟩
      replace x0 := x0.below hbd
      replace hIx := hIx.below hbd (Nat.le_refl _)
      have hsl := x0.lt
      clear hb hb3 hbd hcR hRw
      refine wp_region_head 13 (bestS wr.drew w.heap.size #[.slice ac n cc, .int .i64 L] ⟨bR, oR + k, none⟩ (.slice x ks.length cx)) (by kernel_rfl) rfl ?_
      generalize wr.drew = Y0 at *
      refine HeadAt.take (i := 0) (.agg #[.slice ac n cc, .int .i64 L]) rfl (by kernel_rfl) (.inl ⟨rfl, fun w' z => ?_⟩) S0 ?_
      · (have z0 := z.1.cell 0 rfl; have z1 := z.1.cell 1 rfl; simp [go_sem, z0, z1])
      refine HeadAt.take (i := 1) (.slice (some ⟨bR, oR, none⟩) N cR) rfl (by kernel_rfl) (.inl ⟨rfl, fun _ _ => by simp [go_sem]⟩) S0 ?_
      refine HeadAt.take (i := 2) (.int .i64 (k : Int)) rfl (by kernel_rfl) (.inl ⟨rfl, fun _ _ => by simp [go_sem]⟩) S0 ?_
      (try simp only [Act.put, List.getElem_toArray, List.getElem_cons_succ, List.getElem_cons_zero, List.setIfInBounds_toArray, List.set_cons_succ, List.set_cons_zero])
      refine HeadAt.take (i := 3) (.pointer (some ⟨bR, oR + k, none⟩)) rfl (by kernel_rfl) (.inl ⟨rfl, fun w' z => ?_⟩) S0 ?_
      · (simp [go_sem, hkI, hk0])
      (try simp only [Act.put, List.getElem_toArray, List.getElem_cons_succ, List.getElem_cons_zero, List.setIfInBounds_toArray, List.set_cons_succ, List.set_cons_zero])
      refine HeadAt.take (i := 4) (.slice x ks.length cx) rfl (by kernel_rfl) (.inl ⟨rfl, fun w' z => ?_⟩) S0 ?_
      · (have z0 := z.2.2; simp [go_sem, z0])
      refine HeadAt.take (i := 6) (.int .i64 t) rfl (by kernel_rfl) (.inl ⟨rfl, fun _ _ => by simp [go_sem]⟩) S0 ?_
      (try simp only [Act.put, List.getElem_toArray, List.getElem_cons_succ, List.getElem_cons_zero, List.setIfInBounds_toArray, List.set_cons_succ, List.set_cons_zero])
      refine HeadAt.rg (f0 := 0) [5, 7, 8, 9, 10, 11, 12] 7 (fun v => { tmps := #[.agg #[.slice ac n cc, .int .i64 L], .int .i64 t, .pointer (some ⟨w.heap.size, 0, none⟩), undef, .slice none 0 0, .int .i64 0, .int .i64 0, .slice (some ⟨bR, oR, none⟩) N cR, .int .i64 (j : Int), .int .i64 o2, .int .i64 (k : Int), v 12, v 11, .agg #[.slice ac n cc, .int .i64 L], .int .i64 t, .bool o, .int .i64 0, .int .i64 0, .bool false, undef, .pointer (some ⟨w.heap.size, 0, none⟩), .slice ac n cc, .int .i64 (n : Int), .slice (some ⟨bR, oR, none⟩) N cR, .int .i64 (k : Int), .slice (some ⟨bR, oR, none⟩) N cR, .int .i64 (N : Int), .bool true, u28, u29, v 8, .agg #[.slice ac n cc, .int .i64 L], .slice (some ⟨bR, oR, none⟩) N cR, .int .i64 (k : Int), .pointer (some ⟨bR, oR + k, none⟩), .slice x ks.length cx, v 5, .int .i64 t, v 7, v 9, v 10, u41, u42, u43, u44, u45, u46, u47, undef, undef, undef, undef], defers := [] }) (bestF Y0 m L t u) (fun i => match i with | 5 => u36 | 7 => u38 | 8 => u30 | 9 => u39 | 10 => u40 | 11 => u12 | _ => u11) (by kernel_rfl) (fun w1 w2 h hb => bestS_below h hb) (bestF_below Y0 m L t u) ?step ?done S0
      case step =>
        intro i hi oo ho v V hS hp
        simp only [List.mem_cons, List.not_mem_nil, or_false] at hi
        generalize hK : Upto _ _ = K0
        rcases hi with rfl | rfl | rfl | rfl | rfl | rfl | rfl
        · cases ho
          clear hp
          have q2 := hcall V x cx (hXd.below hS.2.1 (Nat.le_refl _)) (hIx.below hS.2.1 (Nat.le_refl _))
          go_wp2_with fail
          refine q2.mono ?_
          rintro e V1 ⟨a', c', rfl, hb1, hc⟩
          go_wp2_with fail
          subst hK
          exact ⟨_, rfl, hb1, a', c', rfl, hc⟩
        · cases ho
          obtain ⟨a', c', h5', hc⟩ : bestF Y0 m L t u 5 (v 5) V := hp 5 (by simp) (by kernel_rfl)
          clear hp
          rw [h5']
          have q2 := hc V (Below.refl _ _)
          go_wp2_with fail
          refine q2.mono ?_
          rintro e V1 ⟨a9, c9, rfl, hb1⟩
          go_wp2_with fail
          subst hK
          exact ⟨_, by simp [Act.put, updU, h5'], hb1, a9, c9, rfl⟩
        · cases ho
          obtain ⟨a9, c9, h7⟩ : bestF Y0 m L t u 7 (v 7) V := hp 7 (by simp) (by kernel_rfl)
          clear hp
          rw [h7]
          go_wp2_with fail
          subst hK
          exact ⟨_, by simp [Act.put, updU, h7], Below.refl _ _, a9, c9, rfl⟩
        · cases ho
          obtain ⟨a9, c9, h8⟩ : bestF Y0 m L t u 8 (v 8) V := hp 8 (by simp) (by kernel_rfl)
          clear hp
          rw [h8]
          go_wp2_with fail
          subst hK
          exact ⟨_, by simp [Act.put, updU, h8], Below.refl _ _, a9, c9, rfl⟩
        · cases ho
          obtain ⟨a9, c9, h8⟩ : bestF Y0 m L t u 8 (v 8) V := hp 8 (by simp) (by kernel_rfl)
          clear hp
          rw [h8]
          go_wp2_with fail
          subst hK
          exact ⟨_, by simp [Act.put, updU, h8], Below.refl _ _, rfl⟩
        · cases ho
          clear hp
          have hb1 := below_one (w := V) (.cells #[.int .i64 0, .int .i64 0, .int .i64 0] 33)
          have hx1 := Bx.new V #[.int .i64 0, .int .i64 0, .int .i64 0] 33
          have HH := hid (And.intro hb1 hx1)
          clear hb1 hx1
          go_wp2_with fail
          subst hK
          exact ⟨_, rfl, HH.out.1, V.heap.size, rfl, hS.2.1.size, HH.out.2⟩
        · cases ho
          obtain ⟨a9, c9, h9⟩ : bestF Y0 m L t u 9 (v 9) V := hp 9 (by simp) (by kernel_rfl)
          clear hp
          rw [h9]
          go_wp2_with fail
          subst hK
          exact ⟨_, by simp [Act.put, updU, h9], Below.refl _ _, a9, c9, rfl⟩
      case done =>
        intro v V hS hp
        obtain ⟨a5, c5, h5', _⟩ : bestF Y0 m L t u 5 (v 5) V := hp 5 (by simp)
        obtain ⟨a7, c7, h7⟩ : bestF Y0 m L t u 7 (v 7) V := hp 7 (by simp)
        obtain ⟨a8, c8, h8⟩ : bestF Y0 m L t u 8 (v 8) V := hp 8 (by simp)
        obtain ⟨a9, c9, h9⟩ : bestF Y0 m L t u 9 (v 9) V := hp 9 (by simp)
        have h10 : v 10 = .agg #[.int .i64 u.op, .int .i64 u.ow, .int .i64 u.rp] := hp 10 (by simp)
        obtain ⟨g, h11, hg, xg⟩ : ∃ g, v 11 = .pointer (some ⟨g, 0, none⟩) ∧ Y0.heap.size ≤ g ∧ Bx V g #[.int .i64 0, .int .i64 0, .int .i64 0] 33 := hp 11 (by simp)
        generalize v 12 = v12'
        clear hp hcall
        rw [h5', h7, h8, h9, h10, h11]
        refine HeadAt.done (by kernel_rfl) ?_
        (try simp only [Act.put, List.drop_succ_cons, List.drop_zero, List.getElem_toArray, List.getElem_cons_succ, List.getElem_cons_zero])
        have hbV := hS.2.1
        clear hS h5' h7 h8 h9 h10 h11
        have d0 := xg.cell 0 rfl; have d1 := xg.cell 1 rfl; have d2 := xg.cell 2 rfl
        have f0 := xg.free 0; have f1 := xg.free 1; have f2 := xg.free 2
        have z1 := xg.set3 (.int .i64 u.op) (.int .i64 u.ow) (.int .i64 u.rp)
        have z2 := below_put3 hbV (b := g) hg (.int .i64 u.op) (.int .i64 u.ow) (.int .i64 u.rp)
        have HZ := hid (And.intro z1 z2)
        clear z1 z2 xg hbV
        go_wp2_with fail
        refine NoPanic.normal ?_
        obtain ⟨z1, z2⟩ := HZ.out
        clear HZ d0 d1 d2 f0 f1 f2
        generalize World.setCell _ _ _ = V5 at *
        replace x0 := x0.below z2
        replace hbw := hbw.trans (z2.mono hbw.size)
        replace hb3w := hb3w.trans (z2.mono hb3w.size)
        clear z2 hXd hIx
        by_cases hz : o2 < u.ow
        · have HP2 := hid (HBY k j o2 ks HP.out hks (by rw [← HU.out]; exact hz))
          clear HBY HBN HBF HP hks
          have d0 := z1.cell 0 rfl; have d1 := z1.cell 1 rfl; have d2 := z1.cell 2 rfl
          go_upto_region 11 with fail
          have e1 := z1.ext 1 rfl
          refine wp_region_ext_lit (by kernel_rfl) (by kernel_rfl) ?_
          repeat (quiet_step (fail))
          refine wpQuiet_nil ?_
          intro _ hw'
          obtain ⟨tt, rfl⟩ := hw'
          have hbt := tt.below
          clear e1 d0 d1 d2
          replace x0 := x0.below hbt
          replace hbw := hbw.trans (hbt.mono hbw.size)
          replace hb3w := hb3w.trans (hbt.mono hb3w.size)
          clear hbt z1
          go_wp2
          go_roundw
          case rel => exact ⟨k + 1, k, u.ow, by omega, by simp, rfl, rfl, by rw [HU.out]; exact HP2, x0, hb3w, hbw⟩
          case measure => simp [intOf]; omega
        · have HP2 := hid (HBN k j o2 ks HP.out hks (by rw [← HU.out]; omega) (by rw [← HU.out]; exact HU0.out))
          have hz' : u.ow ≤ o2 := by omega
          clear HBY HBN HBF HP hks
          have d0 := z1.cell 0 rfl; have d1 := z1.cell 1 rfl; have d2 := z1.cell 2 rfl
          go_wp2
          go_roundw
          case rel => exact ⟨k + 1, j, o2, by omega, by simp, rfl, rfl, HP2, x0, hb3w, hbw⟩
          case measure => simp [intOf]; omega
    · have hk1 : k = N := by omega
      have HF := HBF j o2 (by rw [← hk1]; exact HP.out)
      obtain ⟨bR, oR, x, cx, rfl, hcR, hIx⟩ := hRw j bo HF
      have hjN : (j : Int) < (N : Int) := by
        rcases Nat.lt_or_ge j XS.length with h | h
        · rw [← HN.out] at h; omega
        · rw [List.getElem?_eq_none h] at HF; cases HF
      have hj0 : (0 : Int) ≤ (j : Int) := by omega
      have hkI : ¬ (k : Int) < (N : Int) := by omega
      clear HBY HBN HBF HP HF hq hk1 HB0
      go_wp2
      go_ret2
      first | exact ⟨x, ⟨cx, rfl⟩, hIx, hb⟩ | exact ⟨x, cx, rfl, hIx, hb⟩
end Go.Proofs.Ythgjjlkdekfdbaa
