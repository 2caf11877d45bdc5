import Derived.Test.YteianfbdhakhpaaT3
/-! Parts of times. -/
namespace Go.Proofs.Yteianfbdhakhpaa
set_option linter.unusedSimpArgs false
set_option linter.unusedVariables false
open Go Go.RowKit

theorem info_parts {t : TypeId} {z : Value} {n b : Nat} (h : (Try.prog.info? t).map (fun i => (i.zero, i.size, i.bytes)) = some (some z, n, b)) : ∃ i, Try.prog.info? t = some i ∧ i.zero = some z ∧ i.size = n ∧ i.bytes = b := by
  rcases hi : Try.prog.info? t with _ | i
  · rw [hi] at h; cases h
  rw [hi] at h
  simp only [Option.map_some, Option.some.injEq, Prod.mk.injEq] at h
  exact ⟨i, rfl, h.1, h.2.1, h.2.2⟩
theorem info3i : (Try.prog.info? 3).map (fun i => (i.zero, i.size, i.bytes)) = some (some (.int .i64 0), 1, 8) := by kernel_rfl
theorem under22 : Try.prog.underlying 22 = some (.slice 3) := by kernel_rfl
theorem info22 : (Try.prog.info? 22).map (fun i => (i.zero, i.size, i.bytes)) = some (some (.slice none 0 0), 1, 24) := by kernel_rfl
theorem under90 : Try.prog.underlying 90 = some (.slice 22) := by kernel_rfl

theorem Ints.sub {w : World} {b off : Nat} {xs : List Int} (h : Ints w (some ⟨b, off, none⟩) xs) (i j : Nat) : Ints w (some ⟨b, off + i, none⟩) ((xs.drop i).take j) := by
  obtain ⟨h1, h2, h3⟩ := h
  refine ⟨by rw [List.length_take, List.length_drop]; omega, fun x hx => h2 x (List.mem_of_mem_drop (List.mem_of_mem_take hx)), fun k hk => ?_⟩
  rw [List.length_take, List.length_drop] at hk
  obtain ⟨b', off', ha, hb, hc⟩ := h3 (i + k) (by omega)
  simp only [Option.some.injEq, Addr.mk.injEq, and_true] at ha
  obtain ⟨rfl, rfl⟩ := ha
  refine ⟨b, off + i, rfl, hb, ?_⟩
  rw [Nat.add_assoc, hc]
  have : ((xs.drop i).take j).getD k 0 = xs.getD (i + k) 0 := by
    rw [List.getD_eq_getElem?_getD, List.getD_eq_getElem?_getD, List.getElem?_take, if_pos (by omega), List.getElem?_drop]
  rw [this]
theorem Cls.of_own2 {w : World} {base : Nat} {t : TypeId} {a : Option Addr} {n c : Nat} {xs : List Value} (h : w.ownsRow base t 1 (.slice a n c) n xs) : Cls w a xs := fun j u hj => by
  have hlen : xs.length = n * 1 := h.1
  have hj2 : j < xs.length := by
    rcases Nat.lt_or_ge j xs.length with hl | hl
    · exact hl
    · rw [List.getElem?_eq_none hl] at hj; cases hj
  obtain ⟨g, cap, e⟩ := Go.Joins.ownsRow_form h (by omega)
  simp only [Value.slice.injEq] at e
  obtain ⟨rfl, _, rfl⟩ := e
  have hc := h.cellAt j (by omega)
  exact ⟨g, 0, rfl, (h.lt g rfl).2, by rw [Nat.zero_add, hc]; exact hj⟩
/-- Values that are slices that read as lists. -/
def Sbs (w : World) (vs : List Value) (LL : List (List Int)) : Prop :=
  vs.length = LL.length ∧ ∀ (i : Nat) (ks : List Int), LL[i]? = some ks → ∃ (a : Option Addr) (c : Nat), vs[i]? = some (.slice a ks.length c) ∧ ks.length ≤ c ∧ c ≤ 9223372036854775807 ∧ Ints w a ks
theorem Sbs.nil (w : World) : Sbs w [] [] := ⟨rfl, fun i ks h => by simp at h⟩
theorem Sbs.snoc {w : World} {vs : List Value} {LL : List (List Int)} (h : Sbs w vs LL) {a : Option Addr} {c : Nat} {ks : List Int} (h1 : ks.length ≤ c) (h2 : c ≤ 9223372036854775807) (h3 : Ints w a ks) : Sbs w (vs ++ [.slice a ks.length c]) (LL ++ [ks]) := by
  refine ⟨by simp [h.1], fun i k hi => ?_⟩
  rcases Nat.lt_or_ge i LL.length with hl | hl
  · rw [List.getElem?_append_left hl] at hi
    obtain ⟨a', c', q1, q2⟩ := h.2 i k hi
    exact ⟨a', c', by rw [List.getElem?_append_left (by rw [h.1]; exact hl)]; exact q1, q2⟩
  · rw [List.getElem?_append_right hl] at hi
    have h0 : i - LL.length = 0 := by
      rcases hh : i - LL.length with _ | m
      · rfl
      · rw [hh] at hi; simp at hi
    rw [h0] at hi
    simp at hi
    subst hi
    exact ⟨a, c, by rw [List.getElem?_append_right (by rw [h.1]; exact hl), h.1, h0]; rfl, h1, h2, h3⟩
/-- A slice that reads as lists, with their room. -/
def Lsc (w : World) (a : Option Addr) (LL : List (List Int)) : Prop :=
  ∀ (i : Nat) (ks : List Int), LL[i]? = some ks → ∃ (b off : Nat) (a' : Option Addr) (c : Nat), a = some ⟨b, off, none⟩ ∧ b < w.heap.size ∧ w.cell? ⟨b, off + i, none⟩ = some (.slice a' ks.length c) ∧ ks.length ≤ c ∧ c ≤ 9223372036854775807 ∧ Ints w a' ks
theorem Lsc.below {w w' : World} {a : Option Addr} {LL : List (List Int)} (h : Lsc w a LL) {B : Nat} (hb : Below B w w') (hB : w.heap.size ≤ B) : Lsc w' a LL := fun i ks hi => by
  obtain ⟨b, off, a', c, h1, h2, h3, h4, h5, h6⟩ := h i ks hi
  have hs := hb.size
  exact ⟨b, off, a', c, h1, by omega, by rw [hb.cell (p := ⟨b, off + i, none⟩) (by show b < B; omega)]; exact h3, h4, h5, h6.below hb hB⟩
theorem Lsc.of {w w' : World} {base : Nat} {a : Option Addr} {n c : Nat} {vs : List Value} {LL : List (List Int)} (h : w'.ownsRow base 22 1 (.slice a n c) n vs) (hs : Sbs w vs LL) (hb : Below w.heap.size w w') : Lsc w' a LL := fun i ks hi => by
  obtain ⟨a', c', q1, q2, q3, q4⟩ := hs.2 i ks hi
  obtain ⟨b, off, e, hlt, hc⟩ := Cls.of_own2 h i _ q1
  exact ⟨b, off, a', c', e, hlt, hc, q2, q3, q4.below hb (Nat.le_refl _)⟩
theorem prt_cut {d x y : Int} {cur r : List Int} (h : d ≤ y - x) : prt d cur (x :: y :: r) = (cur ++ [x]) :: prt d [] (y :: r) := by rw [prt, if_pos h]
theorem prt_on {d x y : Int} {cur r : List Int} (h : ¬ d ≤ y - x) : prt d cur (x :: y :: r) = prt d (cur ++ [x]) (y :: r) := by rw [prt, if_neg h]
theorem prt_last (d x : Int) (cur : List Int) : prt d cur [x] = [cur ++ [x]] := by rw [prt]
theorem sub_snoc {l : List Int} {i k : Nat} {x : Int} (h : l[k]? = some x) (hi : i ≤ k) : (l.drop i).take (k - i) ++ [x] = (l.drop i).take (k + 1 - i) := by
  rw [show k + 1 - i = (k - i) + 1 by omega, List.take_add_one, List.getElem?_drop, show i + (k - i) = k by omega, h]; rfl

/-- Nothing beneath a world has changed. -/
def BlS (w0 w : World) : Prop := Below w0.heap.size w0 w
/-- A cell that stays. -/
def ClB (w : World) (b o : Nat) (v : Value) : Prop := w.cell? ⟨b, o, none⟩ = some v ∧ b < w.heap.size
theorem ClB.below {w w' : World} {b o : Nat} {v : Value} (h : ClB w b o v) (hb : Below w.heap.size w w') : ClB w' b o v :=
  ⟨(hb.cell (p := ⟨b, o, none⟩) h.2).trans h.1, by have := hb.size; have := h.2; omega⟩
theorem one_slice (x : Value) (h : x.oneCell' = true) : ∀ u ∈ [x], u.oneCell' = true := fun u hu => by rw [List.mem_singleton.1 hu]; exact h
/-- While the parts are made. -/
structure PaW (w : World) (l : List Int) (d : Int) (k bg p : Nat) (v : Value) (wr : World) : Prop where
  pos : bg ≤ k
  ex : ∃ (vs : List Value) (done : List (List Int)), prtL d l = done ++ prt d ((l.drop bg).take (k - bg)) (l.drop k) ∧ p = done.length ∧ p ≤ k ∧ wr.ownsRow w.heap.size 22 1 v p vs ∧ Sbs w vs done
  bl : Below w.heap.size w wr

set_option maxRecDepth 100000 in
set_option maxHeartbeats 4000000 in
theorem parts_any (a : Option Addr) (c : Nat) (l : List Int) (d : Int) (w : World) (hI : Ints w a l) (h24 : l.length ≤ 24) (hcap : l.length ≤ c) (hcm : c ≤ 9223372036854775807) (hr : ∀ x ∈ l, 0 ≤ x ∧ x ≤ 99999) : Calls Try.prog 99 #[.slice a l.length c, .int .i64 d] w fun e w' => Below w.heap.size w w' ∧ ∃ (a' : Option Addr) (c' : Nat), e = .returned (.slice a' (prtL d l).length c') ∧ Lsc w' a' (prtL d l) := by
  obtain ⟨j0, hj0, jz0, jz1, jz2⟩ := info_parts info22
  have hpl := prt_len d l []
  have HPL := hid (show (prt d [] l).length = (prtL d l).length from rfl)
  obtain ⟨n, hn⟩ : ∃ n, n = l.length := ⟨_, rfl⟩
  rw [← hn] at h24 hcap ⊢
  have HN := hid hn
  have HR := hid hr
  have E0 : PaW w l d 0 0 0 (.slice none 0 0) w := ⟨Nat.le_refl _, ⟨[], [], rfl, rfl, Nat.le_refl _, World.ownsRow_nil _ _ _ _, Sbs.nil w⟩, Below.refl _ _⟩
  clear hn hr hpl
  have hnI : (n : Int) ≤ 24 := by omega
  have hnc : (n : Int) ≤ c := by omega
  go_enter Try.func99, Try.ntmps99
  go_wp2
  go_loopw [5, 6, 7, 8, 11] (fun v5 v6 v7 v8 v11 wr => ∃ (k bg p : Nat) (av : Option Addr) (cv : Nat), k ≤ n ∧ v11 = .int .i64 (k : Int) ∧ v6 = .int .i64 (bg : Int) ∧ v5 = .slice av p cv ∧ PaW w l d k bg p (.slice av p cv) wr) (fun _ _ _ _ v11 _ => n - (intOf v11).toNat)
  case atStart => exact ⟨0, 0, 0, none, 0, Nat.zero_le _, rfl, rfl, rfl, E0⟩
  case round =>
    clear E0
    obtain ⟨k, bg, p, av, cv, hk, rfl, rfl, rfl, E⟩ := hrel
    by_cases hlt : k < n
    · obtain ⟨hpos, ⟨vs, done, hpt, hpd, hpk, hown, hsb⟩, hbl⟩ := E
      obtain ⟨b, off, x, rfl, hbx, hcx, hx1, hx2, hgx, hdx⟩ := (hI.below hbl (Nat.le_refl _)).at (k := k) (by rw [← HN.out]; exact hlt)
      have hxr := HR.out x (List.mem_of_getElem? hgx.out)
      have hkI : (k : Int) < n := by omega
      have hk0 : (0 : Int) ≤ (k : Int) := by omega
      obtain ⟨e, he⟩ : ∃ e, e = k + 1 := ⟨_, rfl⟩
      have HE := hid he
      have ewk : IntKind.i64.wrap ((k : Int) + 1) = (e : Int) := by rw [IntWalk.i64_in _ (by omega)]; omega
      have hbe1 : (bg : Int) ≤ (e : Int) := by omega
      have hbe2 : (e : Int) ≤ (c : Int) := by omega
      have hbe3 : (0 : Int) ≤ (bg : Int) := by omega
      have hbe4 : (0 : Int) ≤ (e : Int) := by omega
      have hetn : ((e : Int) - (bg : Int)).toNat = e - bg := by omega
      have hcb : ¬ c = bg := by omega
      have hctn : ((c : Int) - (bg : Int)).toNat = c - bg := by omega
      rw [hdx.out] at hpt
      have hsn := sub_snoc hgx.out hpos
      rw [← he] at hsn
      -- one more part
      have hcut : ∀ (rest : List (List Int)), prtL d l = done ++ ((l.drop bg).take (e - bg) :: rest) → rest = prt d [] (l.drop e) →
          ∀ (v2 : Value) (W2 : World), W2.ownsRow w.heap.size 22 1 v2 (p + 1) (vs ++ [.slice (some ⟨b, off + bg, none⟩) (e - bg) (c - bg)]) → (wr.alloc (.cells #[.slice (some ⟨b, off + bg, none⟩) (e - bg) (c - bg)] 22)).grownBy W2 v2.ownBlock → True := fun _ _ _ _ _ _ _ => trivial
      clear hcut
      have hsub := hI.sub bg (e - bg)
      have hsl : ((l.drop bg).take (e - bg)).length = e - bg := by rw [List.length_take, List.length_drop, ← HN.out]; omega
      have HSB := hid (show Sbs w (vs ++ [.slice (some ⟨b, off + bg, none⟩) (e - bg) (c - bg)]) (done ++ [(l.drop bg).take (e - bg)]) by
        have := hsb.snoc (a := some ⟨b, off + bg, none⟩) (c := c - bg) (by rw [hsl]; omega) (by omega) hsub
        rw [hsl] at this; exact this)
      have HPD := hid hpd
      have HPOS := hid hpos
      have hw0 := hbl.size
      clear hsub hsl hpos
      by_cases hlast : e = n
      · have hEQ : ((e : Int) == (n : Int)) = true := by simp [hlast]
        have hdn : l.drop (k + 1) = [] := List.drop_eq_nil_iff.2 (by rw [← HN.out]; omega)
        rw [hdn, prt_last, hsn] at hpt
        have HPT := hid hpt
        have HDN := hid hdn
        have HLAST := hid hlast
        clear hlast hdx hgx hsn he hdn hpt hpd hsb
        go_upto_region 7 with fail
        have S0 : BlS wr wr.drew := (Below.refl wr.heap.size wr).drew
        refine wp_region_head 16 (fun w' => BlS wr w') (by kernel_rfl) rfl ?_
        generalize wr.drew = Y0 at *
        refine HeadAt.take (i := 0) (.int .i64 (e : Int)) rfl (by kernel_rfl) (.inl ⟨rfl, fun _ _ => by simp [go_sem]⟩) S0 ?_
        (try simp only [Act.put, List.getElem_toArray, List.getElem_cons_succ, List.getElem_cons_zero, List.setIfInBounds_toArray, List.set_cons_succ, List.set_cons_zero])
        refine HeadAt.take (i := 1) (.slice (some ⟨b, off, none⟩) n c) rfl (by kernel_rfl) (.inl ⟨rfl, fun _ _ => by simp [go_sem]⟩) S0 ?_
        (try simp only [Act.put, List.getElem_toArray, List.getElem_cons_succ, List.getElem_cons_zero, List.setIfInBounds_toArray, List.set_cons_succ, List.set_cons_zero])
        refine HeadAt.take (i := 2) (.int .i64 (n : Int)) rfl (by kernel_rfl) (.inl ⟨rfl, fun _ _ => by simp [go_sem]⟩) S0 ?_
        (try simp only [Act.put, List.getElem_toArray, List.getElem_cons_succ, List.getElem_cons_zero, List.setIfInBounds_toArray, List.set_cons_succ, List.set_cons_zero])
        refine HeadAt.take (i := 3) (.bool true) rfl (by kernel_rfl) (.inl ⟨rfl, fun w' z => ?_⟩) S0 ?_
        · (simp [go_sem, hEQ])
        (try simp only [Act.put, List.getElem_toArray, List.getElem_cons_succ, List.getElem_cons_zero, List.setIfInBounds_toArray, List.set_cons_succ, List.set_cons_zero])
        refine HeadAt.take (i := 4) (.bool true) rfl (by kernel_rfl) (.inl ⟨rfl, fun _ _ => by simp [go_sem]⟩) S0 ?_
        (try simp only [Act.put, List.getElem_toArray, List.getElem_cons_succ, List.getElem_cons_zero, List.setIfInBounds_toArray, List.set_cons_succ, List.set_cons_zero])
        refine HeadAt.take (i := 5) undef rfl (by kernel_rfl) (.inr ⟨by kernel_rfl, rfl⟩) S0 ?_
        (try simp only [Act.put, List.getElem_toArray, List.getElem_cons_succ, List.getElem_cons_zero, List.setIfInBounds_toArray, List.set_cons_succ, List.set_cons_zero])
        refine HeadAt.take (i := 6) undef rfl (by kernel_rfl) (.inr ⟨by kernel_rfl, rfl⟩) S0 ?_
        (try simp only [Act.put, List.getElem_toArray, List.getElem_cons_succ, List.getElem_cons_zero, List.setIfInBounds_toArray, List.set_cons_succ, List.set_cons_zero])
        refine HeadAt.take (i := 7) undef rfl (by kernel_rfl) (.inr ⟨by kernel_rfl, rfl⟩) S0 ?_
        (try simp only [Act.put, List.getElem_toArray, List.getElem_cons_succ, List.getElem_cons_zero, List.setIfInBounds_toArray, List.set_cons_succ, List.set_cons_zero])
        refine HeadAt.take (i := 8) undef rfl (by kernel_rfl) (.inr ⟨by kernel_rfl, rfl⟩) S0 ?_
        (try simp only [Act.put, List.getElem_toArray, List.getElem_cons_succ, List.getElem_cons_zero, List.setIfInBounds_toArray, List.set_cons_succ, List.set_cons_zero])
        refine HeadAt.take (i := 9) undef rfl (by kernel_rfl) (.inr ⟨by kernel_rfl, rfl⟩) S0 ?_
        (try simp only [Act.put, List.getElem_toArray, List.getElem_cons_succ, List.getElem_cons_zero, List.setIfInBounds_toArray, List.set_cons_succ, List.set_cons_zero])
        refine HeadAt.take (i := 10) undef rfl (by kernel_rfl) (.inr ⟨by kernel_rfl, rfl⟩) S0 ?_
        (try simp only [Act.put, List.getElem_toArray, List.getElem_cons_succ, List.getElem_cons_zero, List.setIfInBounds_toArray, List.set_cons_succ, List.set_cons_zero])
        refine HeadAt.take (i := 11) undef rfl (by kernel_rfl) (.inr ⟨by kernel_rfl, rfl⟩) S0 ?_
        (try simp only [Act.put, List.getElem_toArray, List.getElem_cons_succ, List.getElem_cons_zero, List.setIfInBounds_toArray, List.set_cons_succ, List.set_cons_zero])
        refine HeadAt.take (i := 12) undef rfl (by kernel_rfl) (.inr ⟨by kernel_rfl, rfl⟩) S0 ?_
        (try simp only [Act.put, List.getElem_toArray, List.getElem_cons_succ, List.getElem_cons_zero, List.setIfInBounds_toArray, List.set_cons_succ, List.set_cons_zero])
        refine HeadAt.take (i := 13) undef rfl (by kernel_rfl) (.inr ⟨by kernel_rfl, rfl⟩) S0 ?_
        (try simp only [Act.put, List.getElem_toArray, List.getElem_cons_succ, List.getElem_cons_zero, List.setIfInBounds_toArray, List.set_cons_succ, List.set_cons_zero])
        refine HeadAt.take (i := 14) undef rfl (by kernel_rfl) (.inr ⟨by kernel_rfl, rfl⟩) S0 ?_
        (try simp only [Act.put, List.getElem_toArray, List.getElem_cons_succ, List.getElem_cons_zero, List.setIfInBounds_toArray, List.set_cons_succ, List.set_cons_zero])
        refine HeadAt.take (i := 15) undef rfl (by kernel_rfl) (.inr ⟨by kernel_rfl, rfl⟩) S0 ?_
        (try simp only [Act.put, List.getElem_toArray, List.getElem_cons_succ, List.getElem_cons_zero, List.setIfInBounds_toArray, List.set_cons_succ, List.set_cons_zero])
        refine HeadAt.done (by kernel_rfl) ?_
        (try simp only [Act.put, List.drop_succ_cons, List.drop_zero, List.getElem_toArray, List.getElem_cons_succ, List.getElem_cons_zero])
        go_wp2_with fail
        refine NoPanic.normal ?_
        have HPN := hid (show prtL d l = (done ++ [(l.drop bg).take (e - bg)]) ++ prt d ((l.drop e).take (e - e)) (l.drop e) by rw [HPT.out, HLAST.out, HN.out]; simp [prt])
        replace hown := own_below2 hown S0
        replace hbl := hbl.trans (Below.mono S0 hbl.size)
        have hsz := Below.size S0
        clear S0
        go_wp2_with (at_builtin; go_loud (refine wpList_append_own _ rfl _ _ 90 rfl w.heap.size 22 j0 (.slice none 0 0) 1 24 under90 hj0 jz0 jz1 jz2 rfl (by decide) (.slice av p cv) p vs rfl (hown.alloc _) ⟨Y0.heap.size, 0, none⟩ 1 1 [.slice (some ⟨b, off + bg, none⟩) (e - bg) (c - bg)] rfl rfl (cell_one_new _ _ _) (one_slice _ rfl) (by unfold maxLen; omega) (by omega) (by simp; omega) ?_); intro v2 W2 hrow2 hg2 _)
        have hbl2 : Below w.heap.size w W2 := (hbl.trans ((below_one (w := Y0) (.cells #[.slice (some ⟨b, off + bg, none⟩) (e - bg) (c - bg)] 22)).mono hbl.size)).grown hg2 (by have := hbl.size; simp; omega) (own_ge hown)
        obtain ⟨a3, c3, rfl⟩ := own_slice2 hrow2
        have HPA := hid (show PaW w l d e e (p + 1) (.slice a3 (p + 1) c3) W2 from ⟨Nat.le_refl _, ⟨_, _, HPN.out, by rw [List.length_append, HPD.out]; rfl, by have := HE.out; omega, hrow2, HSB.out⟩, hbl2⟩)
        clear hown hbl hrow2 hg2 hbl2
        go_wp2
        go_roundw
        case rel => exact ⟨e, e, p + 1, a3, c3, by have := HE.out; omega, by go_num, rfl, rfl, HPA.out⟩
        case measure => have := HE.out; simp [intOf]; omega
      · have hEQ : ((e : Int) == (n : Int)) = false := by rw [beq_eq_false_iff_ne]; omega
        have heI : (e : Int) < n := by omega
        have he0 : (0 : Int) ≤ (e : Int) := by omega
        obtain ⟨b', off', y, eb, hby, hcy0, hy1, hy2, hgy, hdy⟩ := (hI.below hbl (Nat.le_refl _)).at (k := e) (by rw [← HN.out]; omega)
        simp only [Option.some.injEq, Addr.mk.injEq, and_true] at eb
        obtain ⟨rfl, rfl⟩ := eb
        have hyr := HR.out y (List.mem_of_getElem? hgy.out)
        obtain ⟨df, hdf⟩ : ∃ df, df = y - x := ⟨_, rfl⟩
        have ewd : IntKind.i64.wrap (y - x) = df := by rw [hdf]; exact IntWalk.i64_in _ (by omega)
        have hcy : ClB wr b (off + e) (.int .i64 y) := ⟨hcy0, hby⟩
        have hcx2 : ClB wr b (off + k) (.int .i64 x) := ⟨hcx, hbx⟩
        have HSB0 := hid hsb
        rw [← he, hdy.out] at hpt
        by_cases hge : d ≤ df
        · rw [prt_cut (hdf ▸ hge), hsn, ← hdy.out] at hpt
          have HPN := hid (show prtL d l = (done ++ [(l.drop bg).take (e - bg)]) ++ prt d ((l.drop e).take (e - e)) (l.drop e) by rw [hpt]; simp)
          clear hdx hgx hsn he hpt hpd hsb hcx hcy0 hgy hdy hdf
          go_upto_region 7 with fail
          have S0 : BlS wr wr.drew := (Below.refl wr.heap.size wr).drew
          refine wp_region_head 16 (fun w' => BlS wr w') (by kernel_rfl) rfl ?_
          generalize wr.drew = Y0 at *
          refine HeadAt.take (i := 0) (.int .i64 (e : Int)) rfl (by kernel_rfl) (.inl ⟨rfl, fun _ _ => by simp [go_sem]⟩) S0 ?_
          (try simp only [Act.put, List.getElem_toArray, List.getElem_cons_succ, List.getElem_cons_zero, List.setIfInBounds_toArray, List.set_cons_succ, List.set_cons_zero])
          refine HeadAt.take (i := 1) (.slice (some ⟨b, off, none⟩) n c) rfl (by kernel_rfl) (.inl ⟨rfl, fun _ _ => by simp [go_sem]⟩) S0 ?_
          (try simp only [Act.put, List.getElem_toArray, List.getElem_cons_succ, List.getElem_cons_zero, List.setIfInBounds_toArray, List.set_cons_succ, List.set_cons_zero])
          refine HeadAt.take (i := 2) (.int .i64 (n : Int)) rfl (by kernel_rfl) (.inl ⟨rfl, fun _ _ => by simp [go_sem]⟩) S0 ?_
          (try simp only [Act.put, List.getElem_toArray, List.getElem_cons_succ, List.getElem_cons_zero, List.setIfInBounds_toArray, List.set_cons_succ, List.set_cons_zero])
          refine HeadAt.take (i := 3) (.bool false) rfl (by kernel_rfl) (.inl ⟨rfl, fun w' z => ?_⟩) S0 ?_
          · (simp [go_sem, hEQ])
          (try simp only [Act.put, List.getElem_toArray, List.getElem_cons_succ, List.getElem_cons_zero, List.setIfInBounds_toArray, List.set_cons_succ, List.set_cons_zero])
          refine HeadAt.take (i := 4) (.bool false) rfl (by kernel_rfl) (.inl ⟨rfl, fun _ _ => by simp [go_sem]⟩) S0 ?_
          (try simp only [Act.put, List.getElem_toArray, List.getElem_cons_succ, List.getElem_cons_zero, List.setIfInBounds_toArray, List.set_cons_succ, List.set_cons_zero])
          refine HeadAt.take (i := 5) (.slice (some ⟨b, off, none⟩) n c) rfl (by kernel_rfl) (.inl ⟨rfl, fun _ _ => by simp [go_sem]⟩) S0 ?_
          (try simp only [Act.put, List.getElem_toArray, List.getElem_cons_succ, List.getElem_cons_zero, List.setIfInBounds_toArray, List.set_cons_succ, List.set_cons_zero])
          refine HeadAt.take (i := 6) (.int .i64 (e : Int)) rfl (by kernel_rfl) (.inl ⟨rfl, fun _ _ => by simp [go_sem]⟩) S0 ?_
          (try simp only [Act.put, List.getElem_toArray, List.getElem_cons_succ, List.getElem_cons_zero, List.setIfInBounds_toArray, List.set_cons_succ, List.set_cons_zero])
          refine HeadAt.take (i := 7) (.pointer (some ⟨b, off + e, none⟩)) rfl (by kernel_rfl) (.inl ⟨rfl, fun w' z => ?_⟩) S0 ?_
          · (simp [go_sem, heI, he0])
          (try simp only [Act.put, List.getElem_toArray, List.getElem_cons_succ, List.getElem_cons_zero, List.setIfInBounds_toArray, List.set_cons_succ, List.set_cons_zero])
          refine HeadAt.take (i := 8) (.int .i64 y) rfl (by kernel_rfl) (.inl ⟨rfl, fun w' z => ?_⟩) S0 ?_
          · (have z0 := (hcy.below z).1; simp [go_sem, z0])
          (try simp only [Act.put, List.getElem_toArray, List.getElem_cons_succ, List.getElem_cons_zero, List.setIfInBounds_toArray, List.set_cons_succ, List.set_cons_zero])
          refine HeadAt.take (i := 9) (.slice (some ⟨b, off, none⟩) n c) rfl (by kernel_rfl) (.inl ⟨rfl, fun _ _ => by simp [go_sem]⟩) S0 ?_
          (try simp only [Act.put, List.getElem_toArray, List.getElem_cons_succ, List.getElem_cons_zero, List.setIfInBounds_toArray, List.set_cons_succ, List.set_cons_zero])
          refine HeadAt.take (i := 10) (.int .i64 (k : Int)) rfl (by kernel_rfl) (.inl ⟨rfl, fun _ _ => by simp [go_sem]⟩) S0 ?_
          (try simp only [Act.put, List.getElem_toArray, List.getElem_cons_succ, List.getElem_cons_zero, List.setIfInBounds_toArray, List.set_cons_succ, List.set_cons_zero])
          refine HeadAt.take (i := 11) (.pointer (some ⟨b, off + k, none⟩)) rfl (by kernel_rfl) (.inl ⟨rfl, fun w' z => ?_⟩) S0 ?_
          · (simp [go_sem, hkI, hk0])
          (try simp only [Act.put, List.getElem_toArray, List.getElem_cons_succ, List.getElem_cons_zero, List.setIfInBounds_toArray, List.set_cons_succ, List.set_cons_zero])
          refine HeadAt.take (i := 12) (.int .i64 x) rfl (by kernel_rfl) (.inl ⟨rfl, fun w' z => ?_⟩) S0 ?_
          · (have z0 := (hcx2.below z).1; simp [go_sem, z0])
          (try simp only [Act.put, List.getElem_toArray, List.getElem_cons_succ, List.getElem_cons_zero, List.setIfInBounds_toArray, List.set_cons_succ, List.set_cons_zero])
          refine HeadAt.take (i := 13) (.int .i64 df) rfl (by kernel_rfl) (.inl ⟨rfl, fun w' z => ?_⟩) S0 ?_
          · (simp [go_sem, ewd])
          (try simp only [Act.put, List.getElem_toArray, List.getElem_cons_succ, List.getElem_cons_zero, List.setIfInBounds_toArray, List.set_cons_succ, List.set_cons_zero])
          refine HeadAt.take (i := 14) (.int .i64 d) rfl (by kernel_rfl) (.inl ⟨rfl, fun _ _ => by simp [go_sem]⟩) S0 ?_
          (try simp only [Act.put, List.getElem_toArray, List.getElem_cons_succ, List.getElem_cons_zero, List.setIfInBounds_toArray, List.set_cons_succ, List.set_cons_zero])
          refine HeadAt.take (i := 15) (.bool true) rfl (by kernel_rfl) (.inl ⟨rfl, fun w' z => ?_⟩) S0 ?_
          · (simp [go_sem, hge])
          (try simp only [Act.put, List.getElem_toArray, List.getElem_cons_succ, List.getElem_cons_zero, List.setIfInBounds_toArray, List.set_cons_succ, List.set_cons_zero])
          refine HeadAt.done (by kernel_rfl) ?_
          (try simp only [Act.put, List.drop_succ_cons, List.drop_zero, List.getElem_toArray, List.getElem_cons_succ, List.getElem_cons_zero])
          go_wp2_with fail
          refine NoPanic.normal ?_
          replace hown := own_below2 hown S0
          replace hbl := hbl.trans (Below.mono S0 hbl.size)
          have hsz := Below.size S0
          clear S0
          go_wp2_with (at_builtin; go_loud (refine wpList_append_own _ rfl _ _ 90 rfl w.heap.size 22 j0 (.slice none 0 0) 1 24 under90 hj0 jz0 jz1 jz2 rfl (by decide) (.slice av p cv) p vs rfl (hown.alloc _) ⟨Y0.heap.size, 0, none⟩ 1 1 [.slice (some ⟨b, off + bg, none⟩) (e - bg) (c - bg)] rfl rfl (cell_one_new _ _ _) (one_slice _ rfl) (by unfold maxLen; omega) (by omega) (by simp; omega) ?_); intro v2 W2 hrow2 hg2 _)
          have hbl2 : Below w.heap.size w W2 := (hbl.trans ((below_one (w := Y0) (.cells #[.slice (some ⟨b, off + bg, none⟩) (e - bg) (c - bg)] 22)).mono hbl.size)).grown hg2 (by have := hbl.size; simp; omega) (own_ge hown)
          obtain ⟨a3, c3, rfl⟩ := own_slice2 hrow2
          have HPA := hid (show PaW w l d e e (p + 1) (.slice a3 (p + 1) c3) W2 from ⟨Nat.le_refl _, ⟨_, _, HPN.out, by rw [List.length_append, HPD.out]; rfl, by have := HE.out; omega, hrow2, HSB.out⟩, hbl2⟩)
          clear hown hbl hrow2 hg2 hbl2
          go_wp2
          go_roundw
          case rel => exact ⟨e, e, p + 1, a3, c3, by have := HE.out; omega, by go_num, rfl, rfl, HPA.out⟩
          case measure => have := HE.out; simp [intOf]; omega
        · rw [prt_on (hdf ▸ hge), hsn, ← hdy.out] at hpt
          have HPN := hid hpt
          clear hdx hgx hsn he hpt hpd hsb hcx hcy0 hgy hdy hdf
          go_upto_region 7 with fail
          have S0 : BlS wr wr.drew := (Below.refl wr.heap.size wr).drew
          refine wp_region_head 16 (fun w' => BlS wr w') (by kernel_rfl) rfl ?_
          generalize wr.drew = Y0 at *
          refine HeadAt.take (i := 0) (.int .i64 (e : Int)) rfl (by kernel_rfl) (.inl ⟨rfl, fun _ _ => by simp [go_sem]⟩) S0 ?_
          (try simp only [Act.put, List.getElem_toArray, List.getElem_cons_succ, List.getElem_cons_zero, List.setIfInBounds_toArray, List.set_cons_succ, List.set_cons_zero])
          refine HeadAt.take (i := 1) (.slice (some ⟨b, off, none⟩) n c) rfl (by kernel_rfl) (.inl ⟨rfl, fun _ _ => by simp [go_sem]⟩) S0 ?_
          (try simp only [Act.put, List.getElem_toArray, List.getElem_cons_succ, List.getElem_cons_zero, List.setIfInBounds_toArray, List.set_cons_succ, List.set_cons_zero])
          refine HeadAt.take (i := 2) (.int .i64 (n : Int)) rfl (by kernel_rfl) (.inl ⟨rfl, fun _ _ => by simp [go_sem]⟩) S0 ?_
          (try simp only [Act.put, List.getElem_toArray, List.getElem_cons_succ, List.getElem_cons_zero, List.setIfInBounds_toArray, List.set_cons_succ, List.set_cons_zero])
          refine HeadAt.take (i := 3) (.bool false) rfl (by kernel_rfl) (.inl ⟨rfl, fun w' z => ?_⟩) S0 ?_
          · (simp [go_sem, hEQ])
          (try simp only [Act.put, List.getElem_toArray, List.getElem_cons_succ, List.getElem_cons_zero, List.setIfInBounds_toArray, List.set_cons_succ, List.set_cons_zero])
          refine HeadAt.take (i := 4) (.bool false) rfl (by kernel_rfl) (.inl ⟨rfl, fun _ _ => by simp [go_sem]⟩) S0 ?_
          (try simp only [Act.put, List.getElem_toArray, List.getElem_cons_succ, List.getElem_cons_zero, List.setIfInBounds_toArray, List.set_cons_succ, List.set_cons_zero])
          refine HeadAt.take (i := 5) (.slice (some ⟨b, off, none⟩) n c) rfl (by kernel_rfl) (.inl ⟨rfl, fun _ _ => by simp [go_sem]⟩) S0 ?_
          (try simp only [Act.put, List.getElem_toArray, List.getElem_cons_succ, List.getElem_cons_zero, List.setIfInBounds_toArray, List.set_cons_succ, List.set_cons_zero])
          refine HeadAt.take (i := 6) (.int .i64 (e : Int)) rfl (by kernel_rfl) (.inl ⟨rfl, fun _ _ => by simp [go_sem]⟩) S0 ?_
          (try simp only [Act.put, List.getElem_toArray, List.getElem_cons_succ, List.getElem_cons_zero, List.setIfInBounds_toArray, List.set_cons_succ, List.set_cons_zero])
          refine HeadAt.take (i := 7) (.pointer (some ⟨b, off + e, none⟩)) rfl (by kernel_rfl) (.inl ⟨rfl, fun w' z => ?_⟩) S0 ?_
          · (simp [go_sem, heI, he0])
          (try simp only [Act.put, List.getElem_toArray, List.getElem_cons_succ, List.getElem_cons_zero, List.setIfInBounds_toArray, List.set_cons_succ, List.set_cons_zero])
          refine HeadAt.take (i := 8) (.int .i64 y) rfl (by kernel_rfl) (.inl ⟨rfl, fun w' z => ?_⟩) S0 ?_
          · (have z0 := (hcy.below z).1; simp [go_sem, z0])
          (try simp only [Act.put, List.getElem_toArray, List.getElem_cons_succ, List.getElem_cons_zero, List.setIfInBounds_toArray, List.set_cons_succ, List.set_cons_zero])
          refine HeadAt.take (i := 9) (.slice (some ⟨b, off, none⟩) n c) rfl (by kernel_rfl) (.inl ⟨rfl, fun _ _ => by simp [go_sem]⟩) S0 ?_
          (try simp only [Act.put, List.getElem_toArray, List.getElem_cons_succ, List.getElem_cons_zero, List.setIfInBounds_toArray, List.set_cons_succ, List.set_cons_zero])
          refine HeadAt.take (i := 10) (.int .i64 (k : Int)) rfl (by kernel_rfl) (.inl ⟨rfl, fun _ _ => by simp [go_sem]⟩) S0 ?_
          (try simp only [Act.put, List.getElem_toArray, List.getElem_cons_succ, List.getElem_cons_zero, List.setIfInBounds_toArray, List.set_cons_succ, List.set_cons_zero])
          refine HeadAt.take (i := 11) (.pointer (some ⟨b, off + k, none⟩)) rfl (by kernel_rfl) (.inl ⟨rfl, fun w' z => ?_⟩) S0 ?_
          · (simp [go_sem, hkI, hk0])
          (try simp only [Act.put, List.getElem_toArray, List.getElem_cons_succ, List.getElem_cons_zero, List.setIfInBounds_toArray, List.set_cons_succ, List.set_cons_zero])
          refine HeadAt.take (i := 12) (.int .i64 x) rfl (by kernel_rfl) (.inl ⟨rfl, fun w' z => ?_⟩) S0 ?_
          · (have z0 := (hcx2.below z).1; simp [go_sem, z0])
          (try simp only [Act.put, List.getElem_toArray, List.getElem_cons_succ, List.getElem_cons_zero, List.setIfInBounds_toArray, List.set_cons_succ, List.set_cons_zero])
          refine HeadAt.take (i := 13) (.int .i64 df) rfl (by kernel_rfl) (.inl ⟨rfl, fun w' z => ?_⟩) S0 ?_
          · (simp [go_sem, ewd])
          (try simp only [Act.put, List.getElem_toArray, List.getElem_cons_succ, List.getElem_cons_zero, List.setIfInBounds_toArray, List.set_cons_succ, List.set_cons_zero])
          refine HeadAt.take (i := 14) (.int .i64 d) rfl (by kernel_rfl) (.inl ⟨rfl, fun _ _ => by simp [go_sem]⟩) S0 ?_
          (try simp only [Act.put, List.getElem_toArray, List.getElem_cons_succ, List.getElem_cons_zero, List.setIfInBounds_toArray, List.set_cons_succ, List.set_cons_zero])
          refine HeadAt.take (i := 15) (.bool false) rfl (by kernel_rfl) (.inl ⟨rfl, fun w' z => ?_⟩) S0 ?_
          · (simp [go_sem, hge] <;> omega)
          (try simp only [Act.put, List.getElem_toArray, List.getElem_cons_succ, List.getElem_cons_zero, List.setIfInBounds_toArray, List.set_cons_succ, List.set_cons_zero])
          refine HeadAt.done (by kernel_rfl) ?_
          (try simp only [Act.put, List.drop_succ_cons, List.drop_zero, List.getElem_toArray, List.getElem_cons_succ, List.getElem_cons_zero])
          go_wp2_with fail
          refine NoPanic.normal ?_
          replace hown := own_below2 hown S0
          replace hbl := hbl.trans (Below.mono S0 hbl.size)
          have HPA := hid (show PaW w l d e bg p (.slice av p cv) Y0 from ⟨by have := HE.out; have := HPOS.out; omega, ⟨vs, done, HPN.out, HPD.out, by have := HE.out; omega, hown, HSB0.out⟩, hbl⟩)
          clear hown hbl S0
          go_wp2
          go_roundw
          case rel => exact ⟨e, bg, p, av, cv, by have := HE.out; omega, by go_num, rfl, rfl, HPA.out⟩
          case measure => have := HE.out; simp [intOf]; omega
    · obtain rfl : k = n := by omega
      obtain ⟨hpos, ⟨vs, done, hpt, hpd, hpk, hown, hsb⟩, hbl⟩ := E
      rw [List.drop_eq_nil_iff.2 (show l.length ≤ k by rw [← HN.out]; exact Nat.le_refl _)] at hpt
      have hpt2 : prtL d l = done := by rw [hpt]; simp [prt]
      have hn2 : p = (prtL d l).length := by rw [hpt2]; exact hpd
      have hown2 := hown
      have HQ := hid (show Lsc wr av (prtL d l) by rw [hpt2]; exact Lsc.of hown2 hsb hbl)
      have HP2 := hid hn2
      clear hpt hpt2 hpd hsb hown hown2 hn2 HPL
      go_wp2
      go_ret
      exact ⟨hbl, av, cv, by rw [HP2.out]; rfl, HQ.out⟩

end Go.Proofs.Yteianfbdhakhpaa
