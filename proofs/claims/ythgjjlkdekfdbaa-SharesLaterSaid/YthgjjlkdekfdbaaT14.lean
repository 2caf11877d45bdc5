import Derived.Test.YthgjjlkdekfdbaaT13
/-! The best order. -/
namespace Go.Proofs.Ythgjjlkdekfdbaa
set_option linter.unusedSimpArgs false
set_option linter.unusedVariables false
open Go Go.RowKit

attribute [local go_sem] Oper.semAt_some

set_option maxRecDepth 100000 in
set_option maxHeartbeats 1000000 in
theorem orders_any (n : Int) (w : World) : Calls Try.prog 72 #[.int .i64 n] w fun e w' => e = .returned (.func (.func 79) #[] #[.pointer (some ⟨w.heap.size, 0, none⟩)]) ∧ Bx w' w.heap.size #[.int .i64 n] 3 ∧ Below w.heap.size w w' := by
  obtain ⟨W, hW, hb, hs, x0⟩ := boxes1 w #[.int .i64 n] 3
  go_enter Try.func72, Try.ntmps72
  go_wp2
  go_ret
  exact ⟨rfl, x0, hb⟩

set_option maxRecDepth 100000 in
set_option maxHeartbeats 2000000 in
theorem orders_iter (n : Nat) (h5 : n ≤ 5) (n0 B : Nat) (hB : n0 ≤ B) (gb : Nat) (w : World) (hx : Bx w gb #[.int .i64 (n : Int)] 3) : IterD Try.prog 79 #[] #[.pointer (some ⟨gb, 0, none⟩)] (EO B) (ordsA n) (fun W W' => Below W.heap.size W W') n0 B w := by
  intro l J W hW hs hJ hY h0
  have hg := goOn_rec n h5 l n0 B hB (ordsA n) J hJ hY n [] none 0 [] [] W (by simp) (fun x hx => by simp at hx) ⟨by simp, fun x hx => by simp at hx, fun i hi => by simp at hi⟩ ⟨Nat.le_refl _, by simp, fun _ => rfl, fun ad e => by cases e⟩ (by simp [ordsA]) h0 (by omega)
  have hx1 := hx.below hW
  have c0 := hx1.cell 0 rfl
  rw [List.nil_append] at hg
  simp only [List.length_nil] at hg
  clear hJ hY h0 hs hx hx1
  have hg2 : Calls Try.prog 80 #[.slice none 0 0, .int .i64 (n : Int), .func (.yield l) #[] #[]] W fun e W' => e = .returned (.bool true) ∧ J (ordsA n) W' ∧ Kept n0 B W W' := hg
  clear hg
  go_enter Try.func79, Try.ntmps79
  go_wp2_with fail
  refine hg2.mono ?_
  rintro e W2 ⟨rfl, hj, _⟩
  go_wp2
  go_end0
  exact ⟨⟨_, rfl⟩, hj⟩

/-- What the owner gets with the clauses in an order. -/
def ownO (L : Int) (cs : List Cl) (t : Int) (os : List Int) : Int := (settledW L (ordC cs os) t).ow
def visO (f : List Int → Int) (s : List Int × Int) (os : List Int) : List Int × Int := if s.2 < f os then (os, f os) else s
/-- The best of some orders, and what the owner gets then. -/
def bestL (f : List Int → Int) (l : List (List Int)) : List Int × Int := l.foldl (visO f) ([], -1)
theorem bestL_snoc (f : List Int → Int) (l : List (List Int)) (os : List Int) : bestL f (l ++ [os]) = visO f (bestL f l) os := by unfold bestL; rw [List.foldl_append]; rfl
/-- The best order of all clauses. -/
def bestO (L : Int) (cs : List Cl) (t : Int) : List Int := (bestL (ownO L cs t) (ordsA cs.length)).1
theorem bestL_mem (f : List Int → Int) : ∀ (l : List (List Int)), bestL f l = ([], -1) ∨ ∃ os ∈ l, bestL f l = (os, f os) := by
  have : ∀ (l : List (List Int)) (s : List Int × Int), l.foldl (visO f) s = s ∨ ∃ os ∈ l, l.foldl (visO f) s = (os, f os) := by
    intro l
    induction l with
    | nil => exact fun s => .inl rfl
    | cons o l ih =>
      intro s
      rw [List.foldl_cons]
      rcases ih (visO f s o) with h | ⟨os, ho, h⟩
      · rw [h]
        unfold visO
        split
        · exact .inr ⟨o, by simp, rfl⟩
        · exact .inl rfl
      · exact .inr ⟨os, by simp [ho], h⟩
  exact fun l => this l _

theorem Marks.one {B : Nat} {W : World} (h : W.heap[B]? = some (.deferred (some []))) : Marks B W [{ target := .collected B, args := #[] }] :=
  ⟨B, rfl, Nat.le_refl _, h, trivial, fun d hd => by cases hd⟩
theorem Ints.of2 {w w' : World} {a : Option Addr} {xs : List Int} (h : Ints w a xs) (hs : w.heap.size ≤ w'.heap.size) (hk : ∀ ad, a = some ad → ad.block < w.heap.size → w'.heap[ad.block]? = w.heap[ad.block]?) : Ints w' a xs := by
  obtain ⟨h1, h2, h3⟩ := h
  refine ⟨h1, h2, fun i hi => ?_⟩
  obtain ⟨b, off, ha, hbs, hc⟩ := h3 i hi
  refine ⟨b, off, ha, by omega, ?_⟩
  rw [← hc]
  unfold World.cell?
  simp only [hk _ ha hbs]
theorem cell_cel {B : Nat} {W w' : World} (h : Cel B W w') {b o : Nat} {v : Value} (hc : W.cell? ⟨b, o, none⟩ = some v) : w'.cell? ⟨b, o, none⟩ = some v := by
  unfold World.cell? at *
  rcases hh : W.heap[b]? with _ | ob
  · simp [hh] at hc
  · cases ob with
    | cells vs T z =>
      have := h.2 _ _ _ _ hh
      simp only [hh] at hc
      simp only [this]
      exact hc
    | _ => simp [hh] at hc
theorem Ints.cel {B : Nat} {W w' : World} (h : Cel B W w') {a : Option Addr} {xs : List Int} (hI : Ints W a xs) : Ints w' a xs := by
  obtain ⟨h1, h2, h3⟩ := hI
  refine ⟨h1, h2, fun i hi => ?_⟩
  obtain ⟨b, off, ha, hbs, hc⟩ := h3 i hi
  exact ⟨b, off, ha, Nat.lt_of_lt_of_le hbs h.1.size, cell_cel h hc⟩

set_option maxRecDepth 100000 in
set_option maxHeartbeats 6000000 in
theorem bestOrder_any (ac : Option Addr) (cc : Nat) (cs : List Cl) (L : Int) (t : Int) (h5 : cs.length ≤ 5) (ho : Ok cs L t) (w : World) (hX : Clz w ac cs) (bo : List Int) (hbo : bo = bestO L cs t) : Calls Try.prog 63 #[.agg #[.slice ac cs.length cc, .int .i64 L], .int .i64 t] w fun e w' => ∃ (a : Option Addr) (c : Nat), e = .returned (.slice a bo.length c) ∧ Ints w' a bo ∧ Below w.heap.size w w' := by
  refine calls_of_wp_marks Try.func63 rfl ?_
  simp only [Try.ntmps63, List.size_toArray, List.length_cons, List.length_nil, Nat.reduceAdd, Nat.reduceSub, Array.replicate_succ, Array.replicate_zero, List.push_toArray, List.append_toArray, List.nil_append, List.cons_append]
  obtain ⟨W0, hW0, hb0, hs0, x0, x1, x2, x3⟩ := boxes4 w #[.slice ac cs.length cc, .int .i64 L] 24 #[.int .i64 t] 3 #[.slice none 0 0] 41 #[.int .i64 (-1)] 3
  have hor := fun V => orders_any (cs.length : Int) V
  have hsn := fun l q => bestL_snoc (ownO L cs t) l q
  have hHP : bo = (bestL (ownO L cs t) (ordsA cs.length)).1 := hbo
  have HP := hid hHP
  have hb00 : bestL (ownO L cs t) [] = ([], -1) := rfl
  have hq : ∀ os ∈ ordsA cs.length, os.length = cs.length ∧ ∃ u : Wk, u.ow = ownO L cs t os ∧ ∀ (V : World) (a : Option Addr) (c : Nat), Below w.heap.size w V → Ints V a os →
      Calls Try.prog 73 #[.agg #[.slice ac cs.length cc, .int .i64 L], .slice a os.length c] V fun e w' => Below V.heap.size V w' ∧ ∃ (a' : Option Addr) (c' n' : Nat), e = .returned (.agg #[.slice a' n' c', .int .i64 L]) ∧
        ∀ V2, Below w'.heap.size w' V2 → Calls Try.prog 52 #[.agg #[.slice a' n' c', .int .i64 L], .int .i64 t] V2 fun e w' => e = .returned (.agg #[.int .i64 u.op, .int .i64 u.ow, .int .i64 u.rp, .int .i64 u.rest, .int .i64 u.owed]) ∧ Below V2.heap.size V2 w' := by
    intro os hos
    obtain ⟨h1, h2⟩ := ordsA_ok hos
    refine ⟨h1, _, rfl, fun V a c hV hI => ?_⟩
    refine (ordered_any ac cc cs L a c os (by omega) h2 V (hX.below hV (Nat.le_refl _)) hI).mono ?_
    rintro e w' ⟨a', c', rfl, hC, hb⟩
    exact ⟨hb, a', c', _, rfl, fun V2 hV2 => settled_any a' c' (ordC cs os) L t ⟨ordC_ok ho.cs h2, ho.L, ho.t⟩ V2 (hC.below hV2 (Nat.le_refl _)) _ rfl⟩
  generalize ownO L cs t = f at *
  obtain ⟨n, hn⟩ : ∃ n, n = cs.length := ⟨_, rfl⟩
  rw [← hn] at hq h5 hor x0 hW0 HP
  have hit0 := fun gb B hB V hx => orders_iter n h5 w.heap.size B hB gb V hx
  have hq1 : ∀ os ∈ ordsA n, os.length = n ∧ ∃ u : Wk, u.ow = f os ∧ ∀ (V : World) (a : Option Addr) (c : Nat), Below w.heap.size w V → Ints V a os →
      Calls Try.prog 73 #[.agg #[.slice ac n cc, .int .i64 L], .slice a os.length c] V fun e w' => Below V.heap.size V w' ∧ ∃ (a' : Option Addr) (c' n' : Nat), e = .returned (.agg #[.slice a' n' c', .int .i64 L]) ∧
        ∀ V2, Below w'.heap.size w' V2 → Calls Try.prog 52 #[.agg #[.slice a' n' c', .int .i64 L], .int .i64 t] V2 fun e w' => e = .returned (.agg #[.int .i64 u.op, .int .i64 u.ow, .int .i64 u.rp, .int .i64 u.rest, .int .i64 u.owed]) ∧ Below V2.heap.size V2 w' := hq
  clear hq hbo hHP hX ho
  rw [← hn]
  clear hn
  generalize ordsA n = XS at *
  have c0 := x0.cell 0 rfl; have c1 := x0.cell 1 rfl
  go_wp2_with fail
  refine (hor _).mono ?_
  rintro e W1 ⟨rfl, xg, hb2⟩
  replace x0 := x0.below hb2; replace x1 := x1.below hb2; replace x2 := x2.below hb2; replace x3 := x3.below hb2
  have hb1 := hb0.trans (hb2.mono hb0.size)
  have hsz1 := hb2.size
  have hxg := xg.lt
  clear hW0 c0 c1 hor hb0 hb2
  go_wp2_with fail
  obtain ⟨s0, hs0'⟩ : ∃ s0, s0 = w.heap.size := ⟨_, rfl⟩
  rw [hs0] at xg hsz1 hxg
  rw [← hs0'] at xg x0 x1 x2 x3 hb1 hit0 hq1 hs0 hsz1 hxg ⊢
  have HS0 := hid hs0'
  clear hs0' hs0
  obtain ⟨B, hB⟩ : ∃ B, B = W1.heap.size := ⟨_, rfl⟩
  have hBs : s0 + 5 ≤ B := by omega
  have hit := hit0 (s0 + 1 + 1 + 1 + 1) (W1.heap.size + 2) (by omega) W1 xg
  rw [← hB] at hit
  refine wp_rangeFuncD (α := List Int) s0 (by omega) (gf := 79) (bd := #[]) (lb := #[.pointer (some ⟨s0 + 1 + 1 + 1 + 1, 0, none⟩)]) (E := EO (B + 2)) (xs := XS) (StI := fun W W' => Below W.heap.size W W') (St := Sta W1.heap.size)
    rfl (enters_of Try.func79 (by kernel_rfl) rfl) (fun x vs W hE => by obtain ⟨a, c, rfl, _⟩ := hE; rfl) (by rw [← hB]; exact hit) (fun W W' h => h) (fun W W' hs h => h.mono hs) (fun W W' h => Sta.of_below h)
    (fun pre W => B ≤ W.heap.size ∧ Bx W s0 #[.slice ac n cc, .int .i64 L] 24 ∧ Bx W (s0 + 1) #[.int .i64 t] 3 ∧ Bx W (s0 + 1 + 1 + 1) #[.int .i64 (bestL f pre).2] 3 ∧ Below s0 w W ∧ ∃ (a : Option Addr) (c : Nat), Bx W (s0 + 1 + 1) #[.slice a (bestL f pre).1.length c] 41 ∧ Ints W a (bestL f pre).1 ∧ ∀ ad, a = some ad → B + 2 ≤ ad.block)
    ?hI ?h0 (fun x a' W => ∃ (a : Option Addr) (c : Nat), Ints W a x ∧ (∀ ad, a = some ad → B + 2 ≤ ad.block) ∧ a' = { tmps := #[.agg #[.slice ac n cc, .int .i64 L], .int .i64 t, .pointer (some ⟨s0, 0, none⟩), .pointer (some ⟨s0 + 1, 0, none⟩), .slice none 0 0, .pointer (some ⟨s0 + 1 + 1, 0, none⟩), .pointer (some ⟨s0 + 1 + 1 + 1, 0, none⟩), .slice a x.length c, undef, .pointer (some ⟨s0, 0, none⟩), .slice ac n cc, .int .i64 (n : Int), .func (.func 79) #[] #[.pointer (some ⟨s0 + 1 + 1 + 1 + 1, 0, none⟩)], .slice a x.length c, undef, undef, undef, undef, undef, undef, undef, undef, undef, undef, undef, undef, undef], defers := [] }) ?hAx ?assign ?body ?done
  case hI =>
    rintro pre W W' ⟨i0, i1, i2, i3, i4, a, c, i5, i6, i7⟩ hs
    rw [← hB] at hs
    have f : ∀ {b : Nat} {vs : Array Value} {T : TypeId}, Bx W b vs T → b < B → Bx W' b vs T := fun hx hlt => by
      unfold Bx at *; rw [hs.block _ (by have := Bx.lt hx; omega) (by omega) (by omega)]; exact hx
    exact ⟨Nat.le_trans i0 hs.size, f i1 (by omega), f i2 (by omega), f i3 (by omega), i4.trans ((hs.below i0).mono (by omega)), a, c, f i5 (by omega), i6.of2 hs.size (fun ad e hl => hs.block _ hl (by have := i7 ad e; omega) (by have := i7 ad e; omega)), i7⟩
  case h0 => exact ⟨by omega, x0, x1, x3, hb1, none, 0, x2, ⟨by simp [hb00], fun x hx => by rw [hb00] at hx; simp at hx, fun i hi => by rw [hb00] at hi; simp at hi⟩, fun ad e => by cases e⟩
  case hAx =>
    rintro x a' W W' ⟨a, c, h1, h2, h3⟩ hs
    rw [← hB] at hs
    exact ⟨a, c, h1.of2 hs.size (fun ad e hl => hs.block _ hl (by have := h2 ad e; omega) (by have := h2 ad e; omega)), h2, h3⟩
  case assign =>
    rintro l pre x vs W K hx hi ⟨a, c, rfl, hE1, hE2⟩ hsz hK
    refine wpIn_region_plain rfl ?_
    go_wp2_with fail
    exact hK _ _ (Kept.refl _ _ _) hi ⟨a, c, hE1, hE2.at_, rfl⟩
  case body =>
    rintro l pre x a' W hx ⟨i0, i1, i2, i3, i4, a, c, i5, i6, i7⟩ ⟨a2, c2, h1, h2, rfl⟩ hsz
    have hqm : x ∈ XS := by obtain ⟨r, hr⟩ := hx; rw [hr]; simp
    obtain ⟨hxl, u, hu, hqq⟩ := hq1 x hqm
    have hs1 := hsn pre x
    obtain ⟨bp, hbp⟩ : ∃ b, b = bestL f pre := ⟨_, rfl⟩
    rw [← hbp] at hs1 i3 i5 i6
    unfold visO at hs1
    rw [← hu] at hs1
    have HS1 := hid hs1
    have hf0 := fun W => (week_f u.op u.ow u.rp u.rest u.owed W).1
    have hf1 := split_f u.op u.ow u.rp
    have hbd := (Below.refl W.heap.size W).drew
    have S0 := And.intro (i1.below hbd) (i2.below hbd)
    have hk : Kept s0 B W W.drew := Kept.of_below hbd (by omega)
    have hbr := i4.trans (hbd.mono (by omega))
    have hszr : B ≤ W.drew.heap.size := i0
    have i3d := i3.below hbd
    have i5d := i5.below hbd
    have i6d := i6.below hbd (Nat.le_refl _)
    have h1d := h1.below hbd (Nat.le_refl _)
    obtain ⟨nx, hnx⟩ : ∃ nx, nx = x.length := ⟨_, rfl⟩
    rw [← hnx] at hqq ⊢
    have HNX := hid hnx
    clear hs1 hbp hu hxl hqm hx hq1 hsn hb00 hit hit0 x0 x1 x2 x3 xg hbd hnx i1 i2 i3 i5 i6 h1
    gi_wp2_with fail
    refine wpIn_region_head 7 (fun w' => Bx w' s0 #[.slice ac n cc, .int .i64 L] 24 ∧ Bx w' (s0 + 1) #[.int .i64 t] 3) (by kernel_rfl) (by kernel_rfl) ?_
    generalize W.drew = Y0 at *
    refine HeadAt.take (i := 0) (.agg #[.slice ac n cc, .int .i64 L]) rfl (by kernel_rfl) (.inl ⟨rfl, fun w' z => ?_⟩) S0 ?_
    · (have z0 := z.1.cell 0 rfl; have z1 := z.1.cell 1 rfl; simp [go_sem, z0, z1])
    refine HeadAt.take (i := 1) (.slice a2 nx c2) rfl (by kernel_rfl) (.inl ⟨rfl, fun _ _ => by simp [go_sem]⟩) S0 ?_
    refine HeadAt.take (i := 3) (.int .i64 t) rfl (by kernel_rfl) (.inl ⟨rfl, fun w' z => ?_⟩) S0 ?_
    · (have z0 := z.2.cell 0 rfl; simp [go_sem, z0])
    (try simp only [Act.put, List.getElem_toArray, List.getElem_cons_succ, List.getElem_cons_zero, List.setIfInBounds_toArray, List.set_cons_succ, List.set_cons_zero])
    refine HeadAt.one (i := 2) rfl (by kernel_rfl) ?_
    generalize hK : Upto _ _ = K0
    (try simp only [Act.put, List.getElem_toArray, List.getElem_cons_succ, List.getElem_cons_zero, List.setIfInBounds_toArray, List.set_cons_succ, List.set_cons_zero])
    go_wp2_with fail
    refine (hqq _ a2 c2 hbr h1d).mono ?_
    rintro e V1 ⟨hb5, a', c', n', rfl, hst⟩
    replace S0 := And.intro (S0.1.below hb5) (S0.2.below hb5)
    replace hk := hk.trans (Kept.of_below hb5 (by omega))
    replace hbr := hbr.trans (hb5.mono (by omega))
    replace hszr := Nat.le_trans hszr hb5.size
    replace i3d := i3d.below hb5
    replace i5d := i5d.below hb5
    replace i6d := i6d.below hb5 (Nat.le_refl _)
    replace h1d := h1d.below hb5 (Nat.le_refl _)
    have hst1 := hst _ (Below.refl _ _)
    clear hqq hb5 hst
    go_wp2_with fail
    subst hK
    refine ⟨S0, ?_⟩
    (try simp only [Act.put, List.getElem_toArray, List.getElem_cons_succ, List.getElem_cons_zero, List.setIfInBounds_toArray, List.set_cons_succ, List.set_cons_zero])
    refine HeadAt.one (i := 4) rfl (by kernel_rfl) ?_
    generalize hK : Upto _ _ = K0
    (try simp only [Act.put, List.getElem_toArray, List.getElem_cons_succ, List.getElem_cons_zero, List.setIfInBounds_toArray, List.set_cons_succ, List.set_cons_zero])
    go_wp2_with fail
    refine hst1.mono ?_
    rintro e V2 ⟨rfl, hb5⟩
    replace S0 := And.intro (S0.1.below hb5) (S0.2.below hb5)
    replace hk := hk.trans (Kept.of_below hb5 (by omega))
    replace hbr := hbr.trans (hb5.mono (by omega))
    replace hszr := Nat.le_trans hszr hb5.size
    replace i3d := i3d.below hb5
    replace i5d := i5d.below hb5
    replace i6d := i6d.below hb5 (Nat.le_refl _)
    replace h1d := h1d.below hb5 (Nat.le_refl _)
    clear hst1 hb5
    go_wp2_with fail
    subst hK
    refine ⟨S0, ?_⟩
    (try simp only [Act.put, List.getElem_toArray, List.getElem_cons_succ, List.getElem_cons_zero, List.setIfInBounds_toArray, List.set_cons_succ, List.set_cons_zero])
    refine HeadAt.take (i := 5) (.agg #[.int .i64 u.op, .int .i64 u.ow, .int .i64 u.rp]) rfl (by kernel_rfl) (.inl ⟨rfl, fun w' z => ?_⟩) S0 ?_
    · (simp [go_sem, hf0])
    (try simp only [Act.put, List.getElem_toArray, List.getElem_cons_succ, List.getElem_cons_zero, List.setIfInBounds_toArray, List.set_cons_succ, List.set_cons_zero])
    refine HeadAt.take (i := 6) (.int .i64 u.ow) rfl (by kernel_rfl) (.inl ⟨rfl, fun w' z => ?_⟩) S0 ?_
    · (simp [go_sem, hf1])
    (try simp only [Act.put, List.getElem_toArray, List.getElem_cons_succ, List.getElem_cons_zero, List.setIfInBounds_toArray, List.set_cons_succ, List.set_cons_zero])
    refine HeadAt.done (by kernel_rfl) ?_
    (try simp only [Act.put, List.drop_succ_cons, List.drop_zero, List.getElem_toArray, List.getElem_cons_succ, List.getElem_cons_zero])
    go_wp2_with fail
    refine NoPanic.normal ?_
    have v0 := i3d.cell 0 rfl
    have v1 := i5d.cell 0 rfl
    have g0 := i3d.free 0
    have g1 := i5d.free 0
    by_cases hlt : bp.2 < u.ow
    · have hs2 := HS1.out
      rw [if_pos hlt] at hs2
      have HS2 := hid hs2
      have j5 := (i5d.set 0 (.slice a2 nx c2)).other (a := ⟨s0 + 1 + 1 + 1, 0, none⟩) (by show s0 + 1 + 1 ≠ s0 + 1 + 1 + 1; omega) (.int .i64 u.ow)
      have j3 := (i3d.other (a := ⟨s0 + 1 + 1, 0, none⟩) (by show s0 + 1 + 1 + 1 ≠ s0 + 1 + 1; omega) (.slice a2 nx c2)).set 0 (.int .i64 u.ow)
      have j1 := (S0.1.other (a := ⟨s0 + 1 + 1, 0, none⟩) (by show s0 ≠ s0 + 1 + 1; omega) (.slice a2 nx c2)).other (a := ⟨s0 + 1 + 1 + 1, 0, none⟩) (by show s0 ≠ s0 + 1 + 1 + 1; omega) (.int .i64 u.ow)
      have j2 := (S0.2.other (a := ⟨s0 + 1 + 1, 0, none⟩) (by show s0 + 1 ≠ s0 + 1 + 1; omega) (.slice a2 nx c2)).other (a := ⟨s0 + 1 + 1 + 1, 0, none⟩) (by show s0 + 1 ≠ s0 + 1 + 1 + 1; omega) (.int .i64 u.ow)
      have j4 := (hbr.setCell (p := ⟨s0 + 1 + 1, 0, none⟩) (by show s0 ≤ s0 + 1 + 1; omega) (.slice a2 nx c2)).setCell (p := ⟨s0 + 1 + 1 + 1, 0, none⟩) (by show s0 ≤ s0 + 1 + 1 + 1; omega) (.int .i64 u.ow)
      have jk1 := Kept.set (n0 := s0) (B := B) (a := V2) (p := ⟨s0 + 1 + 1, 0, none⟩) (by show s0 ≤ s0 + 1 + 1; omega) (by show s0 + 1 + 1 < B; omega) (.slice a2 nx c2)
      have jk2 := jk1.trans (Kept.set (n0 := s0) (B := B) (p := ⟨s0 + 1 + 1 + 1, 0, none⟩) (by show s0 ≤ s0 + 1 + 1 + 1; omega) (by show s0 + 1 + 1 + 1 < B; omega) (.int .i64 u.ow))
      have j6 := Ints.kept jk2 h1d (fun ad e => by have := h2 ad e; omega)
      have hk3 := hk.trans jk2
      have HH := hid (And.intro hk3 (And.intro j1 (And.intro j2 (And.intro j3 (And.intro j4 (And.intro j5 j6))))))
      clear hs2 hk3 j1 j2 j3 j4 j5 j6 jk1 jk2 i6d i7
      gi_wp2
      obtain ⟨hk3, j1, j2, j3, j4, j5, j6⟩ := HH.out
      rw [← hB]
      refine ⟨hk3, by have := hk3.below.size; omega, j1, j2, by rw [HS2.out]; simpa using j3, j4, a2, c2, ?_, by rw [HS2.out]; exact j6, h2⟩
      rw [HS2.out]
      show Bx _ _ #[.slice a2 x.length c2] 41
      rw [← HNX.out]
      simpa using j5
    · have hs2 := HS1.out
      rw [if_neg hlt] at hs2
      have HS2 := hid hs2
      have hle : u.ow ≤ bp.2 := by omega
      have HH := hid (And.intro hk (And.intro S0.1 (And.intro S0.2 (And.intro i3d (And.intro hbr (And.intro i5d i6d))))))
      clear hs2 hlt hk i6d
      gi_wp2
      obtain ⟨hk3, j1, j2, j3, j4, j5, j6⟩ := HH.out
      rw [← hB]
      exact ⟨hk3, by have := hk3.below.size; omega, j1, j2, by rw [HS2.out]; exact j3, j4, a, c, by rw [HS2.out]; exact j5, by rw [HS2.out]; exact j6, i7⟩
  case done =>
    rintro W ⟨i0, i1, i2, i3, i4, a, c, i5, i6, i7⟩ hD hsz
    rw [← HP.out] at i5 i6
    have v0 := i5.cell 0 rfl
    have hM := Marks.one hD
    obtain ⟨nb, hnb⟩ : ∃ nb, nb = bo.length := ⟨_, rfl⟩
    rw [← hnb] at v0
    have HNB := hid hnb
    clear hnb hq1 hsn hb00 hit hit0 x0 x1 x2 x3 xg i1 i2 i3 i5 i0
    go_wp2_with fail
    refine leaves_marks _ _ hM fun w' hc => ?_
    refine ⟨_, results_tmp rfl _ _ _, ?_⟩
    refine ⟨a, c, by rw [← HNB.out]; rfl, Ints.cel hc i6, ?_⟩
    rw [← HS0.out]; exact i4.trans (hc.1.mono (by omega))
end Go.Proofs.Ythgjjlkdekfdbaa
