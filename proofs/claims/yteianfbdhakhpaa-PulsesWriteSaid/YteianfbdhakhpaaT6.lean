import Derived.Test.YteianfbdhakhpaaT3
/-! Parts of times. -/
namespace Go.Proofs.Yteianfbdhakhpaa
set_option linter.unusedSimpArgs false
set_option linter.unusedVariables false
open Go Go.RowKit

theorem info_parts {t : TypeId} {z : Value} {n b : Nat} (h : (Try.prog.info? t).map (fun i => (i.zero, i.size, i.bytes)) = some (some z, n, b)) : ∃ i, Try.prog.info? t = some i ∧ i.zero = some z ∧ i.size = n ∧ i.bytes = b := by
  rcases hi : Try.prog.info? t with _ | i
  · rw [hi] at h; cases h
  rw [hi] at h
  simp only [Option.map_some, Option.some.injEq, Prod.mk.injEq] at h
  exact ⟨i, rfl, h.1, h.2.1, h.2.2⟩
theorem info3i : (Try.prog.info? 3).map (fun i => (i.zero, i.size, i.bytes)) = some (some (.int .i64 0), 1, 8) := by kernel_rfl
theorem under22 : Try.prog.underlying 22 = some (.slice 3) := by kernel_rfl
theorem info22 : (Try.prog.info? 22).map (fun i => (i.zero, i.size, i.bytes)) = some (some (.slice none 0 0), 1, 24) := by kernel_rfl
theorem under90 : Try.prog.underlying 90 = some (.slice 22) := by kernel_rfl

theorem Ints.sub {w : World} {b off : Nat} {xs : List Int} (h : Ints w (some ⟨b, off, none⟩) xs) (i j : Nat) : Ints w (some ⟨b, off + i, none⟩) ((xs.drop i).take j) := by
  obtain ⟨h1, h2, h3⟩ := h
  refine ⟨by rw [List.length_take, List.length_drop]; omega, fun x hx => h2 x (List.mem_of_mem_drop (List.mem_of_mem_take hx)), fun k hk => ?_⟩
  rw [List.length_take, List.length_drop] at hk
  obtain ⟨b', off', ha, hb, hc⟩ := h3 (i + k) (by omega)
  simp only [Option.some.injEq, Addr.mk.injEq, and_true] at ha
  obtain ⟨rfl, rfl⟩ := ha
  refine ⟨b, off + i, rfl, hb, ?_⟩
  rw [Nat.add_assoc, hc]
  have : ((xs.drop i).take j).getD k 0 = xs.getD (i + k) 0 := by
    rw [List.getD_eq_getElem?_getD, List.getD_eq_getElem?_getD, List.getElem?_take, if_pos (by omega), List.getElem?_drop]
  rw [this]
theorem Cls.of_own2 {w : World} {base : Nat} {t : TypeId} {a : Option Addr} {n c : Nat} {xs : List Value} (h : w.ownsRow base t 1 (.slice a n c) n xs) : Cls w a xs := fun j u hj => by
  have hlen : xs.length = n * 1 := h.1
  have hj2 : j < xs.length := by
    rcases Nat.lt_or_ge j xs.length with hl | hl
    · exact hl
    · rw [List.getElem?_eq_none hl] at hj; cases hj
  obtain ⟨g, cap, e⟩ := Go.Joins.ownsRow_form h (by omega)
  simp only [Value.slice.injEq] at e
  obtain ⟨rfl, _, rfl⟩ := e
  have hc := h.cellAt j (by omega)
  exact ⟨g, 0, rfl, (h.lt g rfl).2, by rw [Nat.zero_add, hc]; exact hj⟩
/-- Values that are slices that read as lists. -/
def Sbs (w : World) (vs : List Value) (LL : List (List Int)) : Prop :=
  vs.length = LL.length ∧ ∀ (i : Nat) (ks : List Int), LL[i]? = some ks → ∃ (a : Option Addr) (c : Nat), vs[i]? = some (.slice a ks.length c) ∧ ks.length ≤ c ∧ c ≤ 9223372036854775807 ∧ Ints w a ks
theorem Sbs.nil (w : World) : Sbs w [] [] := ⟨rfl, fun i ks h => by simp at h⟩
theorem Sbs.snoc {w : World} {vs : List Value} {LL : List (List Int)} (h : Sbs w vs LL) {a : Option Addr} {c : Nat} {ks : List Int} (h1 : ks.length ≤ c) (h2 : c ≤ 9223372036854775807) (h3 : Ints w a ks) : Sbs w (vs ++ [.slice a ks.length c]) (LL ++ [ks]) := by
  refine ⟨by simp [h.1], fun i k hi => ?_⟩
  rcases Nat.lt_or_ge i LL.length with hl | hl
  · rw [List.getElem?_append_left hl] at hi
    obtain ⟨a', c', q1, q2⟩ := h.2 i k hi
    exact ⟨a', c', by rw [List.getElem?_append_left (by rw [h.1]; exact hl)]; exact q1, q2⟩
  · rw [List.getElem?_append_right hl] at hi
    have h0 : i - LL.length = 0 := by
      rcases hh : i - LL.length with _ | m
      · rfl
      · rw [hh] at hi; simp at hi
    rw [h0] at hi
    simp at hi
    subst hi
    exact ⟨a, c, by rw [List.getElem?_append_right (by rw [h.1]; exact hl), h.1, h0]; rfl, h1, h2, h3⟩
/-- A slice that reads as lists, with their room. -/
def Lsc (w : World) (a : Option Addr) (LL : List (List Int)) : Prop :=
  ∀ (i : Nat) (ks : List Int), LL[i]? = some ks → ∃ (b off : Nat) (a' : Option Addr) (c : Nat), a = some ⟨b, off, none⟩ ∧ b < w.heap.size ∧ w.cell? ⟨b, off + i, none⟩ = some (.slice a' ks.length c) ∧ ks.length ≤ c ∧ c ≤ 9223372036854775807 ∧ Ints w a' ks
theorem Lsc.below {w w' : World} {a : Option Addr} {LL : List (List Int)} (h : Lsc w a LL) {B : Nat} (hb : Below B w w') (hB : w.heap.size ≤ B) : Lsc w' a LL := fun i ks hi => by
  obtain ⟨b, off, a', c, h1, h2, h3, h4, h5, h6⟩ := h i ks hi
  have hs := hb.size
  exact ⟨b, off, a', c, h1, by omega, by rw [hb.cell (p := ⟨b, off + i, none⟩) (by show b < B; omega)]; exact h3, h4, h5, h6.below hb hB⟩
theorem Lsc.of {w w' : World} {base : Nat} {a : Option Addr} {n c : Nat} {vs : List Value} {LL : List (List Int)} (h : w'.ownsRow base 22 1 (.slice a n c) n vs) (hs : Sbs w vs LL) (hb : Below w.heap.size w w') : Lsc w' a LL := fun i ks hi => by
  obtain ⟨a', c', q1, q2, q3, q4⟩ := hs.2 i ks hi
  obtain ⟨b, off, e, hlt, hc⟩ := Cls.of_own2 h i _ q1
  exact ⟨b, off, a', c', e, hlt, hc, q2, q3, q4.below hb (Nat.le_refl _)⟩
theorem prt_cut {d x y : Int} {cur r : List Int} (h : d ≤ y - x) : prt d cur (x :: y :: r) = (cur ++ [x]) :: prt d [] (y :: r) := by rw [prt, if_pos h]
theorem prt_on {d x y : Int} {cur r : List Int} (h : ¬ d ≤ y - x) : prt d cur (x :: y :: r) = prt d (cur ++ [x]) (y :: r) := by rw [prt, if_neg h]
theorem prt_last (d x : Int) (cur : List Int) : prt d cur [x] = [cur ++ [x]] := by rw [prt]
theorem sub_snoc {l : List Int} {i k : Nat} {x : Int} (h : l[k]? = some x) (hi : i ≤ k) : (l.drop i).take (k - i) ++ [x] = (l.drop i).take (k + 1 - i) := by
  rw [show k + 1 - i = (k - i) + 1 by omega, List.take_add_one, List.getElem?_drop, show i + (k - i) = k by omega, h]; rfl

/-- Nothing beneath a world has changed. -/
def BlS (w0 w : World) : Prop := Below w0.heap.size w0 w
/-- A cell that stays. -/
def ClB (w : World) (b o : Nat) (v : Value) : Prop := w.cell? ⟨b, o, none⟩ = some v ∧ b < w.heap.size
theorem ClB.below {w w' : World} {b o : Nat} {v : Value} (h : ClB w b o v) (hb : Below w.heap.size w w') : ClB w' b o v :=
  ⟨(hb.cell (p := ⟨b, o, none⟩) h.2).trans h.1, by have := hb.size; have := h.2; omega⟩
theorem one_slice (x : Value) (h : x.oneCell' = true) : ∀ u ∈ [x], u.oneCell' = true := fun u hu => by rw [List.mem_singleton.1 hu]; exact h
/-- While the parts are made. -/
structure PaW (w : World) (l : List Int) (d : Int) (k bg p : Nat) (v : Value) (wr : World) : Prop where
  pos : bg ≤ k
  ex : ∃ (vs : List Value) (done : List (List Int)), prtL d l = done ++ prt d ((l.drop bg).take (k - bg)) (l.drop k) ∧ p = done.length ∧ p ≤ k ∧ wr.ownsRow w.heap.size 22 1 v p vs ∧ Sbs w vs done
  bl : Below w.heap.size w wr

set_option maxRecDepth 100000 in
set_option maxHeartbeats 4000000 in
theorem parts_any (a : Option Addr) (c : Nat) (l : List Int) (d : Int) (w : World) (hI : Ints w a l) (h24 : l.length ≤ 24) (hcap : l.length ≤ c) (hcm : c ≤ 9223372036854775807) (hr : ∀ x ∈ l, 0 ≤ x ∧ x ≤ 99999) : Calls Try.prog 99 #[.slice a l.length c, .int .i64 d] w fun e w' => Below w.heap.size w w' ∧ ∃ (a' : Option Addr) (c' : Nat), e = .returned (.slice a' (prtL d l).length c') ∧ Lsc w' a' (prtL d l) := by
  obtain ⟨j0, hj0, jz0, jz1, jz2⟩ := info_parts info22
  have hpl := prt_len d l []
  have HPL := hid (show (prt d [] l).length = (prtL d l).length from rfl)
  obtain ⟨n, hn⟩ : ∃ n, n = l.length := ⟨_, rfl⟩
  rw [← hn] at h24 hcap ⊢
  have HN := hid hn
  have HR := hid hr
  have E0 : PaW w l d 0 0 0 (.slice none 0 0) w := ⟨Nat.le_refl _, ⟨[], [], rfl, rfl, Nat.le_refl _, World.ownsRow_nil _ _ _ _, Sbs.nil w⟩, Below.refl _ _⟩
  clear hn hr hpl
  have hnI : (n : Int) ≤ 24 := by omega
  have hnc : (n : Int) ≤ c := by omega
  go_enter Try.func99, Try.ntmps99
  go_wp2
  go_loopw [5, 6, 7, 8, 11] (fun v5 v6 v7 v8 v11 wr => ∃ (k bg p : Nat) (av : Option Addr) (cv : Nat), k ≤ n ∧ v11 = .int .i64 (k : Int) ∧ v6 = .int .i64 (bg : Int) ∧ v5 = .slice av p cv ∧ PaW w l d k bg p (.slice av p cv) wr) (fun _ _ _ _ v11 _ => n - (intOf v11).toNat)
  case atStart => exact ⟨0, 0, 0, none, 0, Nat.zero_le _, rfl, rfl, rfl, E0⟩
  case round =>
    clear E0
    obtain ⟨k, bg, p, av, cv, hk, rfl, rfl, rfl, E⟩ := hrel
    by_cases hlt : k < n
    · obtain ⟨hpos, ⟨vs, done, hpt, hpd, hpk, hown, hsb⟩, hbl⟩ := E
      obtain ⟨b, off, x, rfl, hbx, hcx, hx1, hx2, hgx, hdx⟩ := (hI.below hbl (Nat.le_refl _)).at (k := k) (by rw [← HN.out]; exact hlt)
      have hxr := HR.out x (List.mem_of_getElem? hgx.out)
      have hkI : (k : Int) < n := by omega
      have hk0 : (0 : Int) ≤ (k : Int) := by omega
      obtain ⟨e, he⟩ : ∃ e, e = k + 1 := ⟨_, rfl⟩
      have HE := hid he
      have ewk : IntKind.i64.wrap ((k : Int) + 1) = (e : Int) := by rw [IntWalk.i64_in _ (by omega)]; omega
      have hbe1 : (bg : Int) ≤ (e : Int) := by omega
      have hbe2 : (e : Int) ≤ (c : Int) := by omega
      have hbe3 : (0 : Int) ≤ (bg : Int) := by omega
      have hbe4 : (0 : Int) ≤ (e : Int) := by omega
      have hetn : ((e : Int) - (bg : Int)).toNat = e - bg := by omega
      have hcb : ¬ c = bg := by omega
      have hctn : ((c : Int) - (bg : Int)).toNat = c - bg := by omega
      rw [hdx.out] at hpt
      have hsn := sub_snoc hgx.out hpos
      rw [← he] at hsn
      -- one more part
      have hcut : ∀ (rest : List (List Int)), prtL d l = done ++ ((l.drop bg).take (e - bg) :: rest) → rest = prt d [] (l.drop e) →
          ∀ (v2 : Value) (W2 : World), W2.ownsRow w.heap.size 22 1 v2 (p + 1) (vs ++ [.slice (some ⟨b, off + bg, none⟩) (e - bg) (c - bg)]) → (wr.alloc (.cells #[.slice (some ⟨b, off + bg, none⟩) (e - bg) (c - bg)] 22)).grownBy W2 v2.ownBlock → True := fun _ _ _ _ _ _ _ => trivial
      clear hcut
      have hsub := hI.sub bg (e - bg)
      have hsl : ((l.drop bg).take (e - bg)).length = e - bg := by rw [List.length_take, List.length_drop, ← HN.out]; omega
      have HSB := hid (show Sbs w (vs ++ [.slice (some ⟨b, off + bg, none⟩) (e - bg) (c - bg)]) (done ++ [(l.drop bg).take (e - bg)]) by
        have := hsb.snoc (a := some ⟨b, off + bg, none⟩) (c := c - bg) (by rw [hsl]; omega) (by omega) hsub
        rw [hsl] at this; exact this)
      have HPD := hid hpd
      have HPOS := hid hpos
      have hw0 := hbl.size
      clear hsub hsl hpos
      by_cases hlast : e = n
      · have hEQ : ((e : Int) == (n : Int)) = true := by simp [hlast]
        have hdn : l.drop (k + 1) = [] := List.drop_eq_nil_iff.2 (by rw [← HN.out]; omega)
        rw [hdn, prt_last, hsn] at hpt
        have HPT := hid hpt
        have HDN := hid hdn
        have HLAST := hid hlast
        clear hlast hdx hgx hsn he hdn hpt hpd hsb
        go_upto_region 7 with fail
        have S0 : BlS wr wr.drew := (Below.refl wr.heap.size wr).drew
        refine wp_region_head 16 (fun w' => BlS wr w') (by kernel_rfl) rfl ?_
        generalize wr.drew = Y0 at *
        refine HeadAt.take (i := 0) (.int .i64 (e : Int)) rfl (by kernel_rfl) (.inl ⟨rfl, fun _ _ => by simp [go_sem]⟩) S0 ?_
        (try simp only [Act.put, List.getElem_toArray, List.getElem_cons_succ, List.getElem_cons_zero, List.setIfInBounds_toArray, List.set_cons_succ, List.set_cons_zero])
        refine HeadAt.take (i := 1) (.slice (some ⟨b, off, none⟩) n c) rfl (by kernel_rfl) (.inl ⟨rfl, fun _ _ => by simp [go_sem]⟩) S0 ?_
        (try simp only [Act.put, List.getElem_toArray, List.getElem_cons_succ, List.getElem_cons_zero, List.setIfInBounds_toArray, List.set_cons_succ, List.set_cons_zero])
        refine HeadAt.take (i := 2) (.int .i64 (n : Int)) rfl (by kernel_rfl) (.inl ⟨rfl, fun _ _ => by simp [go_sem]⟩) S0 ?_
        (try simp only [Act.put, List.getElem_toArray, List.getElem_cons_succ, List.getElem_cons_zero, List.setIfInBounds_toArray, List.set_cons_succ, List.set_cons_zero])
        refine HeadAt.take (i := 3) (.bool true) rfl (by kernel_rfl) (.inl ⟨rfl, fun w' z => ?_⟩) S0 ?_
        · (simp [go_sem, hEQ])
        (try simp only [Act.put, List.getElem_toArray, List.getElem_cons_succ, List.getElem_cons_zero, List.setIfInBounds_toArray, List.set_cons_succ, List.set_cons_zero])
        refine HeadAt.take (i := 4) (.bool true) rfl (by kernel_rfl) (.inl ⟨rfl, fun _ _ => by simp [go_sem]⟩) S0 ?_
        (try simp only [Act.put, List.getElem_toArray, List.getElem_cons_succ, List.getElem_cons_zero, List.setIfInBounds_toArray, List.set_cons_succ, List.set_cons_zero])
        refine HeadAt.take (i := 5) undef rfl (by kernel_rfl) (.inr ⟨by kernel_rfl, rfl⟩) S0 ?_
        (try simp only [Act.put, List.getElem_toArray, List.getElem_cons_succ, List.getElem_cons_zero, List.setIfInBounds_toArray, List.set_cons_succ, List.set_cons_zero])
        refine HeadAt.take (i := 6) undef rfl (by kernel_rfl) (.inr ⟨by kernel_rfl, rfl⟩) S0 ?_
        (try simp only [Act.put, List.getElem_toArray, List.getElem_cons_succ, List.getElem_cons_zero, List.setIfInBounds_toArray, List.set_cons_succ, List.set_cons_zero])
        refine HeadAt.take (i := 7) undef rfl (by kernel_rfl) (.inr ⟨by kernel_rfl, rfl⟩) S0 ?_
        (try simp only [Act.put, List.getElem_toArray, List.getElem_cons_succ, List.getElem_cons_zero, List.setIfInBounds_toArray, List.set_cons_succ, List.set_cons_zero])
        refine HeadAt.take (i := 8) undef rfl (by kernel_rfl) (.inr ⟨by kernel_rfl, rfl⟩) S0 ?_
        (try simp only [Act.put, List.getElem_toArray, List.getElem_cons_succ, List.getElem_cons_zero, List.setIfInBounds_toArray, List.set_cons_succ, List.set_cons_zero])
        refine HeadAt.take (i := 9) undef rfl (by kernel_rfl) (.inr ⟨by kernel_rfl, rfl⟩) S0 ?_
        (try simp only [Act.put, List.getElem_toArray, List.getElem_cons_succ, List.getElem_cons_zero, List.setIfInBounds_toArray, List.set_cons_succ, List.set_cons_zero])
        refine HeadAt.take (i := 10) undef rfl (by kernel_rfl) (.inr ⟨by kernel_rfl, rfl⟩) S0 ?_
        (try simp only [Act.put, List.getElem_toArray, List.getElem_cons_succ, List.getElem_cons_zero, List.setIfInBounds_toArray, List.set_cons_succ, List.set_cons_zero])
        refine HeadAt.take (i := 11) undef rfl (by kernel_rfl) (.inr ⟨by kernel_rfl, rfl⟩) S0 ?_
        (try simp only [Act.put, List.getElem_toArray, List.getElem_cons_succ, List.getElem_cons_zero, List.setIfInBounds_toArray, List.set_cons_succ, List.set_cons_zero])
        refine HeadAt.take (i := 12) undef rfl (by kernel_rfl) (.inr ⟨by kernel_rfl, rfl⟩) S0 ?_
        (try simp only [Act.put, List.getElem_toArray, List.getElem_cons_succ, List.getElem_cons_zero, List.setIfInBounds_toArray, List.set_cons_succ, List.set_cons_zero])
        refine HeadAt.take (i := 13) undef rfl (by kernel_rfl) (.inr ⟨by kernel_rfl, rfl⟩) S0 ?_
        (try simp only [Act.put, List.getElem_toArray, List.getElem_cons_succ, List.getElem_cons_zero, List.setIfInBounds_toArray, List.set_cons_succ, List.set_cons_zero])
        refine HeadAt.take (i := 14) undef rfl (by kernel_rfl) (.inr ⟨by kernel_rfl, rfl⟩) S0 ?_
        (try simp only [Act.put, List.getElem_toArray, List.getElem_cons_succ, List.getElem_cons_zero, List.setIfInBounds_toArray, List.set_cons_succ, List.set_cons_zero])
        refine HeadAt.take (i := 15) undef rfl (by kernel_rfl) (.inr ⟨by kernel_rfl, rfl⟩) S0 ?_
        (try simp only [Act.put, List.getElem_toArray, List.getElem_cons_succ, List.getElem_cons_zero, List.setIfInBounds_toArray, List.set_cons_succ, List.set_cons_zero])
        refine HeadAt.done (by kernel_rfl) ?_
        (try simp only [Act.put, List.drop_succ_cons, List.drop_zero, List.getElem_toArray, List.getElem_cons_succ, List.getElem_cons_zero])
        go_wp2_with fail
        refine NoPanic.normal ?_
        have HPN := hid (show prtL d l = (done ++ [(l.drop bg).take (e - bg)]) ++ prt d ((l.drop e).take (e - e)) (l.drop e) by rw [HPT.out, HLAST.out, HN.out]; simp [prt])
        replace hown := own_below2 hown S0
        replace hbl := hbl.trans (Below.mono S0 hbl.size)
        have hsz := Below.size S0
        clear S0
        go_wp2_with (at_builtin; go_loud (refine wpList_append_own _ rfl _ _ 90 rfl w.heap.size 22 j0 (.slice none 0 0) 1 24 under90 hj0 jz0 jz1 jz2 rfl (by decide) (.slice av p cv) p vs rfl (hown.alloc _) ⟨Y0.heap.size, 0, none⟩ 1 1 [.slice (some ⟨b, off + bg, none⟩) (e - bg) (c - bg)] rfl rfl (cell_one_new _ _ _) (one_slice _ rfl) (by unfold maxLen; omega) (by omega) (by simp; omega) ?_); intro v2 W2 hrow2 hg2 _)
        have hbl2 : Below w.heap.size w W2 := (hbl.trans ((below_one (w := Y0) (.cells #[.slice (some ⟨b, off + bg, none⟩) (e - bg) (c - bg)] 22)).mono hbl.size)).grown hg2 (by have := hbl.size; simp; omega) (own_ge hown)
        obtain ⟨a3, c3, rfl⟩ := own_slice2 hrow2
        have HPA := hid (show PaW w l d e e (p + 1) (.slice a3 (p + 1) c3) W2 from ⟨Nat.le_refl _, ⟨_, _, HPN.out, by rw [List.length_append, HPD.out]; rfl, by have := HE.out; omega, hrow2, HSB.out⟩, hbl2⟩)
        clear hown hbl hrow2 hg2 hbl2
        go_wp2
        go_roundw
        case rel => exact ⟨e, e, p + 1, a3, c3, by have := HE.out; omega, by go_num, rfl, rfl, HPA.out⟩
        case measure => have := HE.out; simp [intOf]; omega
      · have hEQ : ((e : Int) == (n : Int)) = false := by rw [beq_eq_false_iff_ne]; omega
        have heI : (e : Int) < n := by omega
        have he0 : (0 : Int) ≤ (e : Int) := by omega
        obtain ⟨b', off', y, eb, hby, hcy0, hy1, hy2, hgy, hdy⟩ := (hI.below hbl (Nat.le_refl _)).at (k := e) (by rw [← HN.out]; omega)
        simp only [Option.some.injEq, Addr.mk.injEq, and_true] at eb
        obtain ⟨rfl, rfl⟩ := eb
        have hyr := HR.out y (List.mem_of_getElem? hgy.out)
        obtain ⟨df, hdf⟩ : ∃ df, df = y - x := ⟨_, rfl⟩
        have ewd : IntKind.i64.wrap (y - x) = df := by rw [hdf]; exact IntWalk.i64_in _ (by omega)
        have hcy : ClB wr b (off + e) (.int .i64 y) := ⟨hcy0, hby⟩
        have hcx2 : ClB wr b (off + k) (.int .i64 x) := ⟨hcx, hbx⟩
        have HSB0 := hid hsb
        rw [← he, hdy.out] at hpt
        by_cases hge : d ≤ df
        · rw [prt_cut (hdf ▸ hge), hsn, ← hdy.out] at hpt
          have HPN := hid (show prtL d l = (done ++ [(l.drop bg).take (e - bg)]) ++ prt d ((l.drop e).take (e - e)) (l.drop e) by rw [hpt]; simp)
          clear hdx hgx hsn he hpt hpd hsb hcx hcy0 hgy hdy hdf
          go_upto_region 7 with fail
          have S0 : BlS wr wr.drew := (Below.refl wr.heap.size wr).drew
          refine wp_region_head 16 (fun w' => BlS wr w') (by kernel_rfl) rfl ?_
          generalize wr.drew = Y0 at *
          refine HeadAt.take (i := 0) (.int .i64 (e : Int)) rfl (by kernel_rfl) (.inl ⟨rfl, fun _ _ => by simp [go_sem]⟩) S0 ?_
          (try simp only [Act.put, List.getElem_toArray, List.getElem_cons_succ, List.getElem_cons_zero, List.setIfInBounds_toArray, List.set_cons_succ, List.set_cons_zero])
          refine HeadAt.take (i := 1) (.slice (some ⟨b, off, none⟩) n c) rfl (by kernel_rfl) (.inl ⟨rfl, fun _ _ => by simp [go_sem]⟩) S0 ?_
          (try simp only [Act.put, List.getElem_toArray, List.getElem_cons_succ, List.getElem_cons_zero, List.setIfInBounds_toArray, List.set_cons_succ, List.set_cons_zero])
          refine HeadAt.take (i := 2) (.int .i64 (n : Int)) rfl (by kernel_rfl) (.inl ⟨rfl, fun _ _ => by simp [go_sem]⟩) S0 ?_
          (try simp only [Act.put, List.getElem_toArray, List.getElem_cons_succ, List.getElem_cons_zero, List.setIfInBounds_toArray, List.set_cons_succ, List.set_cons_zero])
          refine HeadAt.take (i := 3) (.bool false) rfl (by kernel_rfl) (.inl ⟨rfl, fun w' z => ?_⟩) S0 ?_
          · (simp [go_sem, hEQ])
          (try simp only [Act.put, List.getElem_toArray, List.getElem_cons_succ, List.getElem_cons_zero, List.setIfInBounds_toArray, List.set_cons_succ, List.set_cons_zero])
          refine HeadAt.take (i := 4) (.bool false) rfl (by kernel_rfl) (.inl ⟨rfl, fun _ _ => by simp [go_sem]⟩) S0 ?_
          (try simp only [Act.put, List.getElem_toArray, List.getElem_cons_succ, List.getElem_cons_zero, List.setIfInBounds_toArray, List.set_cons_succ, List.set_cons_zero])
          refine HeadAt.take (i := 5) (.slice (some ⟨b, off, none⟩) n c) rfl (by kernel_rfl) (.inl ⟨rfl, fun _ _ => by simp [go_sem]⟩) S0 ?_
          (try simp only [Act.put, List.getElem_toArray, List.getElem_cons_succ, List.getElem_cons_zero, List.setIfInBounds_toArray, List.set_cons_succ, List.set_cons_zero])
          refine HeadAt.take (i := 6) (.int .i64 (e : Int)) rfl (by kernel_rfl) (.inl ⟨rfl, fun _ _ => by simp [go_sem]⟩) S0 ?_
          (try simp only [Act.put, List.getElem_toArray, List.getElem_cons_succ, List.getElem_cons_zero, List.setIfInBounds_toArray, List.set_cons_succ, List.set_cons_zero])
          refine HeadAt.take (i := 7) (.pointer (some ⟨b, off + e, none⟩)) rfl (by kernel_rfl) (.inl ⟨rfl, fun w' z => ?_⟩) S0 ?_
          · (simp [go_sem, heI, he0])
          (try simp only [Act.put, List.getElem_toArray, List.getElem_cons_succ, List.getElem_cons_zero, List.setIfInBounds_toArray, List.set_cons_succ, List.set_cons_zero])
          refine HeadAt.take (i := 8) (.int .i64 y) rfl (by kernel_rfl) (.inl ⟨rfl, fun w' z => ?_⟩) S0 ?_
          · (have z0 := (hcy.below z).1; simp [go_sem, z0])
          (try simp only [Act.put, List.getElem_toArray, List.getElem_cons_succ, List.getElem_cons_zero, List.setIfInBounds_toArray, List.set_cons_succ, List.set_cons_zero])
          refine HeadAt.take (i := 9) (.slice (some ⟨b, off, none⟩) n c) rfl (by kernel_rfl) (.inl ⟨rfl, fun _ _ => by simp [go_sem]⟩) S0 ?_
          (try simp only [Act.put, List.getElem_toArray, List.getElem_cons_succ, List.getElem_cons_zero, List.setIfInBounds_toArray, List.set_cons_succ, List.set_cons_zero])
          refine HeadAt.take (i := 10) (.int .i64 (k : Int)) rfl (by kernel_rfl) (.inl ⟨rfl, fun _ _ => by simp [go_sem]⟩) S0 ?_
          (try simp only [Act.put, List.getElem_toArray, List.getElem_cons_succ, List.getElem_cons_zero, List.setIfInBounds_toArray, List.set_cons_succ, List.set_cons_zero])
          refine HeadAt.take (i := 11) (.pointer (some ⟨b, off + k, none⟩)) rfl (by kernel_rfl) (.inl ⟨rfl, fun w' z => ?_⟩) S0 ?_
          · (simp [go_sem, hkI, hk0])
          (try simp only [Act.put, List.getElem_toArray, List.getElem_cons_succ, List.getElem_cons_zero, List.setIfInBounds_toArray, List.set_cons_succ, List.set_cons_zero])
          refine HeadAt.take (i := 12) (.int .i64 x) rfl (by kernel_rfl) (.inl ⟨rfl, fun w' z => ?_⟩) S0 ?_
          · (have z0 := (hcx2.below z).1; simp [go_sem, z0])
          (try simp only [Act.put, List.getElem_toArray, List.getElem_cons_succ, List.getElem_cons_zero, List.setIfInBounds_toArray, List.set_cons_succ, List.set_cons_zero])
          refine HeadAt.take (i := 13) (.int .i64 df) rfl (by kernel_rfl) (.inl ⟨rfl, fun w' z => ?_⟩) S0 ?_
          · (simp [go_sem, ewd])
          (try simp only [Act.put, List.getElem_toArray, List.getElem_cons_succ, List.getElem_cons_zero, List.setIfInBounds_toArray, List.set_cons_succ, List.set_cons_zero])
          refine HeadAt.take (i := 14) (.int .i64 d) rfl (by kernel_rfl) (.inl ⟨rfl, fun _ _ => by simp [go_sem]⟩) S0 ?_
          (try simp only [Act.put, List.getElem_toArray, List.getElem_cons_succ, List.getElem_cons_zero, List.setIfInBounds_toArray, List.set_cons_succ, List.set_cons_zero])
          refine HeadAt.take (i := 15) (.bool true) rfl (by kernel_rfl) (.inl ⟨rfl, fun w' z => ?_⟩) S0 ?_
          · (simp [go_sem, hge])
          (try simp only [Act.put, List.getElem_toArray, List.getElem_cons_succ, List.getElem_cons_zero, List.setIfInBounds_toArray, List.set_cons_succ, List.set_cons_zero])
          refine HeadAt.done (by kernel_rfl) ?_
          (try simp only [Act.put, List.drop_succ_cons, List.drop_zero, List.getElem_toArray, List.getElem_cons_succ, List.getElem_cons_zero])
          go_wp2_with fail
          refine NoPanic.normal ?_
          replace hown := own_below2 hown S0
          replace hbl := hbl.trans (Below.mono S0 hbl.size)
          have hsz := Below.size S0
          clear S0
          go_wp2_with (at_builtin; go_loud (refine wpList_append_own _ rfl _ _ 90 rfl w.heap.size 22 j0 (.slice none 0 0) 1 24 under90 hj0 jz0 jz1 jz2 rfl (by decide) (.slice av p cv) p vs rfl (hown.alloc _) ⟨Y0.heap.size, 0, none⟩ 1 1 [.slice (some ⟨b, off + bg, none⟩) (e - bg) (c - bg)] rfl rfl (cell_one_new _ _ _) (one_slice _ rfl) (by unfold maxLen; omega) (by omega) (by simp; omega) ?_); intro v2 W2 hrow2 hg2 _)
          have hbl2 : Below w.heap.size w W2 := (hbl.trans ((below_one (w := Y0) (.cells #[.slice (some ⟨b, off + bg, none⟩) (e - bg) (c - bg)] 22)).mono hbl.size)).grown hg2 (by have := hbl.size; simp; omega) (own_ge hown)
          obtain ⟨a3, c3, rfl⟩ := own_slice2 hrow2
          have HPA := hid (show PaW w l d e e (p + 1) (.slice a3 (p + 1) c3) W2 from ⟨Nat.le_refl _, ⟨_, _, HPN.out, by rw [List.length_append, HPD.out]; rfl, by have := HE.out; omega, hrow2, HSB.out⟩, hbl2⟩)
          clear hown hbl hrow2 hg2 hbl2
          go_wp2
          go_roundw
          case rel => exact ⟨e, e, p + 1, a3, c3, by have := HE.out; omega, by go_num, rfl, rfl, HPA.out⟩
          case measure => have := HE.out; simp [intOf]; omega
        · rw [prt_on (hdf ▸ hge), hsn, ← hdy.out] at hpt
          have HPN := hid hpt
          clear hdx hgx hsn he hpt hpd hsb hcx hcy0 hgy hdy hdf
          go_upto_region 7 with fail
          have S0 : BlS wr wr.drew := (Below.refl wr.heap.size wr).drew
          refine wp_region_head 16 (fun w' => BlS wr w') (by kernel_rfl) rfl ?_
          generalize wr.drew = Y0 at *
          refine HeadAt.take (i := 0) (.int .i64 (e : Int)) rfl (by kernel_rfl) (.inl ⟨rfl, fun _ _ => by simp [go_sem]⟩) S0 ?_
          (try simp only [Act.put, List.getElem_toArray, List.getElem_cons_succ, List.getElem_cons_zero, List.setIfInBounds_toArray, List.set_cons_succ, List.set_cons_zero])
          refine HeadAt.take (i := 1) (.slice (some ⟨b, off, none⟩) n c) rfl (by kernel_rfl) (.inl ⟨rfl, fun _ _ => by simp [go_sem]⟩) S0 ?_
          (try simp only [Act.put, List.getElem_toArray, List.getElem_cons_succ, List.getElem_cons_zero, List.setIfInBounds_toArray, List.set_cons_succ, List.set_cons_zero])
          refine HeadAt.take (i := 2) (.int .i64 (n : Int)) rfl (by kernel_rfl) (.inl ⟨rfl, fun _ _ => by simp [go_sem]⟩) S0 ?_
          (try simp only [Act.put, List.getElem_toArray, List.getElem_cons_succ, List.getElem_cons_zero, List.setIfInBounds_toArray, List.set_cons_succ, List.set_cons_zero])
          refine HeadAt.take (i := 3) (.bool false) rfl (by kernel_rfl) (.inl ⟨rfl, fun w' z => ?_⟩) S0 ?_
          · (simp [go_sem, hEQ])
          (try simp only [Act.put, List.getElem_toArray, List.getElem_cons_succ, List.getElem_cons_zero, List.setIfInBounds_toArray, List.set_cons_succ, List.set_cons_zero])
          refine HeadAt.take (i := 4) (.bool false) rfl (by kernel_rfl) (.inl ⟨rfl, fun _ _ => by simp [go_sem]⟩) S0 ?_
          (try simp only [Act.put, List.getElem_toArray, List.getElem_cons_succ, List.getElem_cons_zero, List.setIfInBounds_toArray, List.set_cons_succ, List.set_cons_zero])
          refine HeadAt.take (i := 5) (.slice (some ⟨b, off, none⟩) n c) rfl (by kernel_rfl) (.inl ⟨rfl, fun _ _ => by simp [go_sem]⟩) S0 ?_
          (try simp only [Act.put, List.getElem_toArray, List.getElem_cons_succ, List.getElem_cons_zero, List.setIfInBounds_toArray, List.set_cons_succ, List.set_cons_zero])
          refine HeadAt.take (i := 6) (.int .i64 (e : Int)) rfl (by kernel_rfl) (.inl ⟨rfl, fun _ _ => by simp [go_sem]⟩) S0 ?_
          (try simp only [Act.put, List.getElem_toArray, List.getElem_cons_succ, List.getElem_cons_zero, List.setIfInBounds_toArray, List.set_cons_succ, List.set_cons_zero])
          refine HeadAt.take (i := 7) (.pointer (some ⟨b, off + e, none⟩)) rfl (by kernel_rfl) (.inl ⟨rfl, fun w' z => ?_⟩) S0 ?_
          · (simp [go_sem, heI, he0])
          (try simp only [Act.put, List.getElem_toArray, List.getElem_cons_succ, List.getElem_cons_zero, List.setIfInBounds_toArray, List.set_cons_succ, List.set_cons_zero])
          refine HeadAt.take (i := 8) (.int .i64 y) rfl (by kernel_rfl) (.inl ⟨rfl, fun w' z => ?_⟩) S0 ?_
          · (have z0 := (hcy.below z).1; simp [go_sem, z0])
          (try simp only [Act.put, List.getElem_toArray, List.getElem_cons_succ, List.getElem_cons_zero, List.setIfInBounds_toArray, List.set_cons_succ, List.set_cons_zero])
          refine HeadAt.take (i := 9) (.slice (some ⟨b, off, none⟩) n c) rfl (by kernel_rfl) (.inl ⟨rfl, fun _ _ => by simp [go_sem]⟩) S0 ?_
          (try simp only [Act.put, List.getElem_toArray, List.getElem_cons_succ, List.getElem_cons_zero, List.setIfInBounds_toArray, List.set_cons_succ, List.set_cons_zero])
          refine HeadAt.take (i := 10) (.int .i64 (k : Int)) rfl (by kernel_rfl) (.inl ⟨rfl, fun _ _ => by simp [go_sem]⟩) S0 ?_
          (try simp only [Act.put, List.getElem_toArray, List.getElem_cons_succ, List.getElem_cons_zero, List.setIfInBounds_toArray, List.set_cons_succ, List.set_cons_zero])
          refine HeadAt.take (i := 11) (.pointer (some ⟨b, off + k, none⟩)) rfl (by kernel_rfl) (.inl ⟨rfl, fun w' z => ?_⟩) S0 ?_
          · (simp [go_sem, hkI, hk0])
          (try simp only [Act.put, List.getElem_toArray, List.getElem_cons_succ, List.getElem_cons_zero, List.setIfInBounds_toArray, List.set_cons_succ, List.set_cons_zero])
          refine HeadAt.take (i := 12) (.int .i64 x) rfl (by kernel_rfl) (.inl ⟨rfl, fun w' z => ?_⟩) S0 ?_
          · (have z0 := (hcx2.below z).1; simp [go_sem, z0])
          (try simp only [Act.put, List.getElem_toArray, List.getElem_cons_succ, List.getElem_cons_zero, List.setIfInBounds_toArray, List.set_cons_succ, List.set_cons_zero])
          refine HeadAt.take (i := 13) (.int .i64 df) rfl (by kernel_rfl) (.inl ⟨rfl, fun w' z => ?_⟩) S0 ?_
          · (simp [go_sem, ewd])
          (try simp only [Act.put, List.getElem_toArray, List.getElem_cons_succ, List.getElem_cons_zero, List.setIfInBounds_toArray, List.set_cons_succ, List.set_cons_zero])
          refine HeadAt.take (i := 14) (.int .i64 d) rfl (by kernel_rfl) (.inl ⟨rfl, fun _ _ => by simp [go_sem]⟩) S0 ?_
          (try simp only [Act.put, List.getElem_toArray, List.getElem_cons_succ, List.getElem_cons_zero, List.setIfInBounds_toArray, List.set_cons_succ, List.set_cons_zero])
          refine HeadAt.take (i := 15) (.bool false) rfl (by kernel_rfl) (.inl ⟨rfl, fun w' z => ?_⟩) S0 ?_
          · (simp [go_sem, hge] <;> omega)
          (try simp only [Act.put, List.getElem_toArray, List.getElem_cons_succ, List.getElem_cons_zero, List.setIfInBounds_toArray, List.set_cons_succ, List.set_cons_zero])
          refine HeadAt.done (by kernel_rfl) ?_
          (try simp only [Act.put, List.drop_succ_cons, List.drop_zero, List.getElem_toArray, List.getElem_cons_succ, List.getElem_cons_zero])
          go_wp2_with fail
          refine NoPanic.normal ?_
          replace hown := own_below2 hown S0
          replace hbl := hbl.trans (Below.mono S0 hbl.size)
          have HPA := hid (show PaW w l d e bg p (.slice av p cv) Y0 from ⟨by have := HE.out; have := HPOS.out; omega, ⟨vs, done, HPN.out, HPD.out, by have := HE.out; omega, hown, HSB0.out⟩, hbl⟩)
          clear hown hbl S0
          go_wp2
          go_roundw
          case rel => exact ⟨e, bg, p, av, cv, by have := HE.out; omega, by go_num, rfl, rfl, HPA.out⟩
          case measure => have := HE.out; simp [intOf]; omega
    · obtain rfl : k = n := by omega
      obtain ⟨hpos, ⟨vs, done, hpt, hpd, hpk, hown, hsb⟩, hbl⟩ := E
      rw [List.drop_eq_nil_iff.2 (show l.length ≤ k by rw [← HN.out]; exact Nat.le_refl _)] at hpt
      have hpt2 : prtL d l = done := by rw [hpt]; simp [prt]
      have hn2 : p = (prtL d l).length := by rw [hpt2]; exact hpd
      have hown2 := hown
      have HQ := hid (show Lsc wr av (prtL d l) by rw [hpt2]; exact Lsc.of hown2 hsb hbl)
      have HP2 := hid hn2
      clear hpt hpt2 hpd hsb hown hown2 hn2 HPL
      go_wp2
      go_ret
      exact ⟨hbl, av, cv, by rw [HP2.out]; rfl, HQ.out⟩

end Go.Proofs.Yteianfbdhakhpaa
/-! Groups. -/
namespace Go.Proofs.Yteianfbdhakhpaa
set_option linter.unusedSimpArgs false
set_option linter.unusedVariables false
open Go Go.RowKit

theorem Ints.atb {w : World} {b off : Nat} {xs : List Int} (h : Ints w (some ⟨b, off, none⟩) xs) {k : Nat} (hk : k < xs.length) :
    ∃ x, b < w.heap.size ∧ w.cell? ⟨b, off + k, none⟩ = some (.int .i64 x) ∧ -9223372036854775808 ≤ x ∧ x ≤ 9223372036854775807 ∧ Hid (xs[k]? = some x) ∧ Hid (xs.drop k = x :: xs.drop (k + 1)) := by
  obtain ⟨b', o', x, e, h1, h2⟩ := h.at hk
  simp only [Option.some.injEq, Addr.mk.injEq, and_true] at e
  obtain ⟨rfl, rfl⟩ := e
  exact ⟨x, h1, h2⟩
theorem adjB_two (X : Pu) (x y : Int) (r : List Int) : adjB X (x :: y :: r) = (fromI (X.pi - X.sl) (y - x) (X.pi + X.sl) && adjB X (y :: r)) := rfl
theorem adjB_one (X : Pu) (l : List Int) (h : l.length ≤ 1) : adjB X l = true := by
  rcases l with _ | ⟨x, _ | ⟨y, r⟩⟩
  · rfl
  · rfl
  · simp at h
set_option maxRecDepth 100000 in
set_option maxHeartbeats 4000000 in
theorem isGroup_any (aT : Option Addr) (cT : Nat) (X : Pu) (ok : POk X) (b off c : Nat) (g : List Int) (m : Int) (w : World) (hI : Ints w (some ⟨b, off, none⟩) g) (h1 : 1 ≤ g.length) (h24 : g.length ≤ 24) (hcap : g.length ≤ c) (hcm : c ≤ 9223372036854775807) (hr : ∀ x ∈ g, 0 ≤ x ∧ x ≤ 99999) : Calls Try.prog 100 #[.agg #[.int .i64 X.l, .int .i64 X.n, .int .i64 X.pi, .int .i64 X.sl, .int .i64 X.ga, .int .i64 X.pa, .int .i64 X.sp, .slice aT X.ts.length cT], .slice (some ⟨b, off, none⟩) g.length c, .int .i64 m] w fun e w' => e = .returned (.bool (grB X g m)) ∧ Below w.heap.size w w' := by
  obtain ⟨W, hW, hb, _, x0⟩ := boxes1 w #[.int .i64 X.l, .int .i64 X.n, .int .i64 X.pi, .int .i64 X.sl, .int .i64 X.ga, .int .i64 X.pa, .int .i64 X.sp, .slice aT X.ts.length cT] 24
  have hI0 := hI.below hb (Nat.le_refl _)
  have HG := hid (show grB X g m = (adjB X g && decide ((g.length : Int) ≤ m)) from rfl)
  have HA2 := hid (show ∀ l : List Int, l.length ≤ 1 → adjB X l = true from adjB_one X)
  have HAT := hid (show ∀ x y r, adjB X (x :: y :: r) = (fromI (X.pi - X.sl) (y - x) (X.pi + X.sl) && adjB X (y :: r)) from adjB_two X)
  have hk1 := ok.pi; have hk2 := ok.sl
  obtain ⟨l, nn, pi, sl, ga, pa, sp, ts⟩ := X
  simp only at *
  generalize adjB _ = ADJ at *
  obtain ⟨lo, hlo⟩ : ∃ lo, lo = pi - sl := ⟨_, rfl⟩
  obtain ⟨hi, hhi⟩ : ∃ hi, hi = pi + sl := ⟨_, rfl⟩
  have ewl : IntKind.i64.wrap (pi - sl) = lo := by rw [hlo]; exact IntWalk.i64_in _ (by omega)
  have ewh : IntKind.i64.wrap (pi + sl) = hi := by rw [hhi]; exact IntWalk.i64_in _ (by omega)
  rw [← hlo, ← hhi] at HAT
  generalize grB _ g m = R at *
  obtain ⟨n, hn⟩ : ∃ n, n = g.length := ⟨_, rfl⟩
  rw [← hn] at h1 h24 hcap HG ⊢
  have HN := hid hn
  generalize ts.length = nT at *
  have HR := hid hr
  have hiso := fun x V => isFrom_any lo x hi V
  clear hn hr hlo hhi hI hk1 hk2 ok
  have c0 := x0.cell 0 rfl; have c1 := x0.cell 1 rfl; have c2 := x0.cell 2 rfl; have c3 := x0.cell 3 rfl; have c4 := x0.cell 4 rfl; have c5 := x0.cell 5 rfl; have c6 := x0.cell 6 rfl; have c7 := x0.cell 7 rfl
  by_cases hc1 : c = 1
  · subst hc1
    obtain rfl : n = 1 := by omega
    have HT := hid (HA2.out g (by rw [← HN.out]; exact Nat.le_refl _))
    go_enter Try.func100, Try.ntmps100
    go_wp2
    go_loopw [7, 8, 12] (fun v7 v8 v12 wr => v12 = .int .i64 0 ∧ wr = W) (fun _ _ _ _ => 0)
    case atStart => exact ⟨rfl, rfl⟩
    case round =>
      obtain ⟨rfl, rfl⟩ := hrel
      go_wp2
      go_ret
      exact ⟨ret_bool (by rw [HG.out, HT.out]; simp), hb⟩
  · obtain ⟨q, hq⟩ : ∃ q, q = n - 1 := ⟨_, rfl⟩
    have htn : ((n : Int) - 1).toNat = q := by omega
    obtain ⟨cc, hcc⟩ : ∃ cc, cc = c - 1 := ⟨_, rfl⟩
    have htc : ((c : Int) - 1).toNat = cc := by omega
    have hn1 : (1 : Int) ≤ (n : Int) := by omega
    have hnc : (n : Int) ≤ (c : Int) := by omega
    have hqI : (q : Int) ≤ 24 := by omega
    have HQ := hid hq
    have HCC := hid hcc
    clear hq hcc
    go_enter Try.func100, Try.ntmps100
    go_wp2
    clear hW c0 c1 c2 c3 c4 c5 c6 c7
    go_loopw [7, 8, 12] (fun v7 v8 v12 wr => ∃ k : Nat, k ≤ q ∧ v12 = .int .i64 (k : Int) ∧ Hid (ADJ g = ADJ (g.drop k)) ∧ Below W.heap.size W wr) (fun _ _ v12 _ => q - (intOf v12).toNat)
    case atStart => exact ⟨0, Nat.zero_le _, rfl, hid rfl, Below.refl _ _⟩
    case round =>
      obtain ⟨k, hk, rfl, HA, hbr⟩ := hrel
      by_cases hlt : k < q
      · obtain ⟨x, hbx, hcx, hx1, hx2, hgx, hdx⟩ := (hI0.below hbr (Nat.le_refl _)).atb (k := k) (by rw [← HN.out]; have := HQ.out; omega)
        obtain ⟨y, hby, hcy, hy1, hy2, hgy, hdy⟩ := (hI0.below hbr (Nat.le_refl _)).atb (k := k + 1) (by rw [← HN.out]; have := HQ.out; omega)
        have hcy' : wr.cell? ⟨b, off + 1 + k, none⟩ = some (.int .i64 y) := by rw [Nat.add_assoc, Nat.add_comm 1 k]; exact hcy
        have hcX : ClB wr b (off + k) (.int .i64 x) := ⟨hcx, hbx⟩
        have hxr := HR.out x (List.mem_of_getElem? hgx.out)
        have hyr := HR.out y (List.mem_of_getElem? hgy.out)
        obtain ⟨df, hdf⟩ : ∃ df, df = y - x := ⟨_, rfl⟩
        have ewd : IntKind.i64.wrap (y - x) = df := by rw [hdf]; exact IntWalk.i64_in _ (by omega)
        have hst := HA.out
        rw [hdx.out, hdy.out, HAT.out, ← hdf, ← hdy.out] at hst
        have hkI : (k : Int) < q := by omega
        have hkn : (k : Int) < n := by have := HQ.out; omega
        have hk0 : (0 : Int) ≤ (k : Int) := by omega
        have xr := x0.below hbr
        have hw := hb.trans (hbr.mono hb.size)
        have hcall := hiso df
        cases hf : fromI lo df hi with
        | false =>
          rw [hf] at hst hcall
          have HS := hid (show ADJ g = false by rw [hst]; simp)
          clear hst hf hgx hgy hdx hdy hcx hcy hdf HA hiso
          go_upto_region 4 with fail
          have S0 : BlS wr wr.drew := (Below.refl wr.heap.size wr).drew
          refine wp_region_head 17 (fun w' => BlS wr w') (by kernel_rfl) rfl ?_
          generalize wr.drew = Y0 at *
          refine HeadAt.take (i := 0) (.pointer (some ⟨w.heap.size, 2, none⟩)) rfl (by kernel_rfl) (.inl ⟨rfl, fun _ _ => by simp [go_sem]⟩) S0 ?_
          (try simp only [Act.put, List.getElem_toArray, List.getElem_cons_succ, List.getElem_cons_zero, List.setIfInBounds_toArray, List.set_cons_succ, List.set_cons_zero])
          refine HeadAt.take (i := 1) (.int .i64 pi) rfl (by kernel_rfl) (.inl ⟨rfl, fun w' z => ?_⟩) S0 ?_
          · (have z0 := (xr.below z).cell 2 rfl; simp [go_sem, z0])
          (try simp only [Act.put, List.getElem_toArray, List.getElem_cons_succ, List.getElem_cons_zero, List.setIfInBounds_toArray, List.set_cons_succ, List.set_cons_zero])
          refine HeadAt.take (i := 2) (.pointer (some ⟨w.heap.size, 3, none⟩)) rfl (by kernel_rfl) (.inl ⟨rfl, fun _ _ => by simp [go_sem]⟩) S0 ?_
          (try simp only [Act.put, List.getElem_toArray, List.getElem_cons_succ, List.getElem_cons_zero, List.setIfInBounds_toArray, List.set_cons_succ, List.set_cons_zero])
          refine HeadAt.take (i := 3) (.int .i64 sl) rfl (by kernel_rfl) (.inl ⟨rfl, fun w' z => ?_⟩) S0 ?_
          · (have z0 := (xr.below z).cell 3 rfl; simp [go_sem, z0])
          (try simp only [Act.put, List.getElem_toArray, List.getElem_cons_succ, List.getElem_cons_zero, List.setIfInBounds_toArray, List.set_cons_succ, List.set_cons_zero])
          refine HeadAt.take (i := 4) (.int .i64 lo) rfl (by kernel_rfl) (.inl ⟨rfl, fun w' z => ?_⟩) S0 ?_
          · (simp [go_sem, ewl])
          (try simp only [Act.put, List.getElem_toArray, List.getElem_cons_succ, List.getElem_cons_zero, List.setIfInBounds_toArray, List.set_cons_succ, List.set_cons_zero])
          refine HeadAt.take (i := 5) (.int .i64 y) rfl (by kernel_rfl) (.inl ⟨rfl, fun _ _ => by simp [go_sem]⟩) S0 ?_
          (try simp only [Act.put, List.getElem_toArray, List.getElem_cons_succ, List.getElem_cons_zero, List.setIfInBounds_toArray, List.set_cons_succ, List.set_cons_zero])
          refine HeadAt.take (i := 6) (.slice (some ⟨b, off, none⟩) n c) rfl (by kernel_rfl) (.inl ⟨rfl, fun _ _ => by simp [go_sem]⟩) S0 ?_
          (try simp only [Act.put, List.getElem_toArray, List.getElem_cons_succ, List.getElem_cons_zero, List.setIfInBounds_toArray, List.set_cons_succ, List.set_cons_zero])
          refine HeadAt.take (i := 7) (.int .i64 (k : Int)) rfl (by kernel_rfl) (.inl ⟨rfl, fun _ _ => by simp [go_sem]⟩) S0 ?_
          (try simp only [Act.put, List.getElem_toArray, List.getElem_cons_succ, List.getElem_cons_zero, List.setIfInBounds_toArray, List.set_cons_succ, List.set_cons_zero])
          refine HeadAt.take (i := 8) (.pointer (some ⟨b, off + k, none⟩)) rfl (by kernel_rfl) (.inl ⟨rfl, fun w' z => ?_⟩) S0 ?_
          · (simp [go_sem, hkn, hk0])
          (try simp only [Act.put, List.getElem_toArray, List.getElem_cons_succ, List.getElem_cons_zero, List.setIfInBounds_toArray, List.set_cons_succ, List.set_cons_zero])
          refine HeadAt.take (i := 9) (.int .i64 x) rfl (by kernel_rfl) (.inl ⟨rfl, fun w' z => ?_⟩) S0 ?_
          · (have z0 := (hcX.below z).1; simp [go_sem, z0])
          (try simp only [Act.put, List.getElem_toArray, List.getElem_cons_succ, List.getElem_cons_zero, List.setIfInBounds_toArray, List.set_cons_succ, List.set_cons_zero])
          refine HeadAt.take (i := 10) (.int .i64 df) rfl (by kernel_rfl) (.inl ⟨rfl, fun w' z => ?_⟩) S0 ?_
          · (simp [go_sem, ewd])
          (try simp only [Act.put, List.getElem_toArray, List.getElem_cons_succ, List.getElem_cons_zero, List.setIfInBounds_toArray, List.set_cons_succ, List.set_cons_zero])
          refine HeadAt.take (i := 11) (.pointer (some ⟨w.heap.size, 2, none⟩)) rfl (by kernel_rfl) (.inl ⟨rfl, fun _ _ => by simp [go_sem]⟩) S0 ?_
          (try simp only [Act.put, List.getElem_toArray, List.getElem_cons_succ, List.getElem_cons_zero, List.setIfInBounds_toArray, List.set_cons_succ, List.set_cons_zero])
          refine HeadAt.take (i := 12) (.int .i64 pi) rfl (by kernel_rfl) (.inl ⟨rfl, fun w' z => ?_⟩) S0 ?_
          · (have z0 := (xr.below z).cell 2 rfl; simp [go_sem, z0])
          (try simp only [Act.put, List.getElem_toArray, List.getElem_cons_succ, List.getElem_cons_zero, List.setIfInBounds_toArray, List.set_cons_succ, List.set_cons_zero])
          refine HeadAt.take (i := 13) (.pointer (some ⟨w.heap.size, 3, none⟩)) rfl (by kernel_rfl) (.inl ⟨rfl, fun _ _ => by simp [go_sem]⟩) S0 ?_
          (try simp only [Act.put, List.getElem_toArray, List.getElem_cons_succ, List.getElem_cons_zero, List.setIfInBounds_toArray, List.set_cons_succ, List.set_cons_zero])
          refine HeadAt.take (i := 14) (.int .i64 sl) rfl (by kernel_rfl) (.inl ⟨rfl, fun w' z => ?_⟩) S0 ?_
          · (have z0 := (xr.below z).cell 3 rfl; simp [go_sem, z0])
          (try simp only [Act.put, List.getElem_toArray, List.getElem_cons_succ, List.getElem_cons_zero, List.setIfInBounds_toArray, List.set_cons_succ, List.set_cons_zero])
          refine HeadAt.take (i := 15) (.int .i64 hi) rfl (by kernel_rfl) (.inl ⟨rfl, fun w' z => ?_⟩) S0 ?_
          · (simp [go_sem, ewh])
          (try simp only [Act.put, List.getElem_toArray, List.getElem_cons_succ, List.getElem_cons_zero, List.setIfInBounds_toArray, List.set_cons_succ, List.set_cons_zero])
          refine HeadAt.one (i := 16) rfl (by kernel_rfl) ?_
          generalize hK : Upto _ _ = K0
          (try simp only [Act.put, List.getElem_toArray, List.getElem_cons_succ, List.getElem_cons_zero, List.setIfInBounds_toArray, List.set_cons_succ, List.set_cons_zero])
          go_wp2_with fail
          refine (hcall _).mono ?_
          rintro e V1 ⟨rfl, rfl⟩
          go_wp2_with fail
          subst hK
          refine ⟨S0, ?_⟩
          (try simp only [Act.put, List.getElem_toArray, List.getElem_cons_succ, List.getElem_cons_zero, List.setIfInBounds_toArray, List.set_cons_succ, List.set_cons_zero])
          refine HeadAt.done (by kernel_rfl) ?_
          (try simp only [Act.put, List.drop_succ_cons, List.drop_zero, List.getElem_toArray, List.getElem_cons_succ, List.getElem_cons_zero])
          go_wp2_with fail
          refine NoPanic.normal ?_
          replace hw := hw.trans (Below.mono S0 hw.size)
          have hbr2 := hbr.trans (Below.mono S0 hbr.size)
          clear S0 hcall
          go_wp2
          go_ret
          exact ⟨ret_bool (by rw [HG.out, HS.out]; rfl), hw⟩
        | true =>
          rw [hf] at hst hcall
          have HS := hid (show ADJ g = ADJ (g.drop (k + 1)) by rw [hst]; simp)
          clear hst hf hgx hgy hdx hdy hcx hcy hdf HA hiso
          go_upto_region 4 with fail
          have S0 : BlS wr wr.drew := (Below.refl wr.heap.size wr).drew
          refine wp_region_head 17 (fun w' => BlS wr w') (by kernel_rfl) rfl ?_
          generalize wr.drew = Y0 at *
          refine HeadAt.take (i := 0) (.pointer (some ⟨w.heap.size, 2, none⟩)) rfl (by kernel_rfl) (.inl ⟨rfl, fun _ _ => by simp [go_sem]⟩) S0 ?_
          (try simp only [Act.put, List.getElem_toArray, List.getElem_cons_succ, List.getElem_cons_zero, List.setIfInBounds_toArray, List.set_cons_succ, List.set_cons_zero])
          refine HeadAt.take (i := 1) (.int .i64 pi) rfl (by kernel_rfl) (.inl ⟨rfl, fun w' z => ?_⟩) S0 ?_
          · (have z0 := (xr.below z).cell 2 rfl; simp [go_sem, z0])
          (try simp only [Act.put, List.getElem_toArray, List.getElem_cons_succ, List.getElem_cons_zero, List.setIfInBounds_toArray, List.set_cons_succ, List.set_cons_zero])
          refine HeadAt.take (i := 2) (.pointer (some ⟨w.heap.size, 3, none⟩)) rfl (by kernel_rfl) (.inl ⟨rfl, fun _ _ => by simp [go_sem]⟩) S0 ?_
          (try simp only [Act.put, List.getElem_toArray, List.getElem_cons_succ, List.getElem_cons_zero, List.setIfInBounds_toArray, List.set_cons_succ, List.set_cons_zero])
          refine HeadAt.take (i := 3) (.int .i64 sl) rfl (by kernel_rfl) (.inl ⟨rfl, fun w' z => ?_⟩) S0 ?_
          · (have z0 := (xr.below z).cell 3 rfl; simp [go_sem, z0])
          (try simp only [Act.put, List.getElem_toArray, List.getElem_cons_succ, List.getElem_cons_zero, List.setIfInBounds_toArray, List.set_cons_succ, List.set_cons_zero])
          refine HeadAt.take (i := 4) (.int .i64 lo) rfl (by kernel_rfl) (.inl ⟨rfl, fun w' z => ?_⟩) S0 ?_
          · (simp [go_sem, ewl])
          (try simp only [Act.put, List.getElem_toArray, List.getElem_cons_succ, List.getElem_cons_zero, List.setIfInBounds_toArray, List.set_cons_succ, List.set_cons_zero])
          refine HeadAt.take (i := 5) (.int .i64 y) rfl (by kernel_rfl) (.inl ⟨rfl, fun _ _ => by simp [go_sem]⟩) S0 ?_
          (try simp only [Act.put, List.getElem_toArray, List.getElem_cons_succ, List.getElem_cons_zero, List.setIfInBounds_toArray, List.set_cons_succ, List.set_cons_zero])
          refine HeadAt.take (i := 6) (.slice (some ⟨b, off, none⟩) n c) rfl (by kernel_rfl) (.inl ⟨rfl, fun _ _ => by simp [go_sem]⟩) S0 ?_
          (try simp only [Act.put, List.getElem_toArray, List.getElem_cons_succ, List.getElem_cons_zero, List.setIfInBounds_toArray, List.set_cons_succ, List.set_cons_zero])
          refine HeadAt.take (i := 7) (.int .i64 (k : Int)) rfl (by kernel_rfl) (.inl ⟨rfl, fun _ _ => by simp [go_sem]⟩) S0 ?_
          (try simp only [Act.put, List.getElem_toArray, List.getElem_cons_succ, List.getElem_cons_zero, List.setIfInBounds_toArray, List.set_cons_succ, List.set_cons_zero])
          refine HeadAt.take (i := 8) (.pointer (some ⟨b, off + k, none⟩)) rfl (by kernel_rfl) (.inl ⟨rfl, fun w' z => ?_⟩) S0 ?_
          · (simp [go_sem, hkn, hk0])
          (try simp only [Act.put, List.getElem_toArray, List.getElem_cons_succ, List.getElem_cons_zero, List.setIfInBounds_toArray, List.set_cons_succ, List.set_cons_zero])
          refine HeadAt.take (i := 9) (.int .i64 x) rfl (by kernel_rfl) (.inl ⟨rfl, fun w' z => ?_⟩) S0 ?_
          · (have z0 := (hcX.below z).1; simp [go_sem, z0])
          (try simp only [Act.put, List.getElem_toArray, List.getElem_cons_succ, List.getElem_cons_zero, List.setIfInBounds_toArray, List.set_cons_succ, List.set_cons_zero])
          refine HeadAt.take (i := 10) (.int .i64 df) rfl (by kernel_rfl) (.inl ⟨rfl, fun w' z => ?_⟩) S0 ?_
          · (simp [go_sem, ewd])
          (try simp only [Act.put, List.getElem_toArray, List.getElem_cons_succ, List.getElem_cons_zero, List.setIfInBounds_toArray, List.set_cons_succ, List.set_cons_zero])
          refine HeadAt.take (i := 11) (.pointer (some ⟨w.heap.size, 2, none⟩)) rfl (by kernel_rfl) (.inl ⟨rfl, fun _ _ => by simp [go_sem]⟩) S0 ?_
          (try simp only [Act.put, List.getElem_toArray, List.getElem_cons_succ, List.getElem_cons_zero, List.setIfInBounds_toArray, List.set_cons_succ, List.set_cons_zero])
          refine HeadAt.take (i := 12) (.int .i64 pi) rfl (by kernel_rfl) (.inl ⟨rfl, fun w' z => ?_⟩) S0 ?_
          · (have z0 := (xr.below z).cell 2 rfl; simp [go_sem, z0])
          (try simp only [Act.put, List.getElem_toArray, List.getElem_cons_succ, List.getElem_cons_zero, List.setIfInBounds_toArray, List.set_cons_succ, List.set_cons_zero])
          refine HeadAt.take (i := 13) (.pointer (some ⟨w.heap.size, 3, none⟩)) rfl (by kernel_rfl) (.inl ⟨rfl, fun _ _ => by simp [go_sem]⟩) S0 ?_
          (try simp only [Act.put, List.getElem_toArray, List.getElem_cons_succ, List.getElem_cons_zero, List.setIfInBounds_toArray, List.set_cons_succ, List.set_cons_zero])
          refine HeadAt.take (i := 14) (.int .i64 sl) rfl (by kernel_rfl) (.inl ⟨rfl, fun w' z => ?_⟩) S0 ?_
          · (have z0 := (xr.below z).cell 3 rfl; simp [go_sem, z0])
          (try simp only [Act.put, List.getElem_toArray, List.getElem_cons_succ, List.getElem_cons_zero, List.setIfInBounds_toArray, List.set_cons_succ, List.set_cons_zero])
          refine HeadAt.take (i := 15) (.int .i64 hi) rfl (by kernel_rfl) (.inl ⟨rfl, fun w' z => ?_⟩) S0 ?_
          · (simp [go_sem, ewh])
          (try simp only [Act.put, List.getElem_toArray, List.getElem_cons_succ, List.getElem_cons_zero, List.setIfInBounds_toArray, List.set_cons_succ, List.set_cons_zero])
          refine HeadAt.one (i := 16) rfl (by kernel_rfl) ?_
          generalize hK : Upto _ _ = K0
          (try simp only [Act.put, List.getElem_toArray, List.getElem_cons_succ, List.getElem_cons_zero, List.setIfInBounds_toArray, List.set_cons_succ, List.set_cons_zero])
          go_wp2_with fail
          refine (hcall _).mono ?_
          rintro e V1 ⟨rfl, rfl⟩
          go_wp2_with fail
          subst hK
          refine ⟨S0, ?_⟩
          (try simp only [Act.put, List.getElem_toArray, List.getElem_cons_succ, List.getElem_cons_zero, List.setIfInBounds_toArray, List.set_cons_succ, List.set_cons_zero])
          refine HeadAt.done (by kernel_rfl) ?_
          (try simp only [Act.put, List.drop_succ_cons, List.drop_zero, List.getElem_toArray, List.getElem_cons_succ, List.getElem_cons_zero])
          go_wp2_with fail
          refine NoPanic.normal ?_
          replace hw := hw.trans (Below.mono S0 hw.size)
          have hbr2 := hbr.trans (Below.mono S0 hbr.size)
          clear S0 hcall
          go_wp2
          go_roundw
          case rel => exact ⟨k + 1, by omega, by simp, HS, hbr2⟩
          case measure => simp [intOf]; omega
      · have hkq : k = q := by omega
        have HS := hid (show ADJ g = true by rw [HA.out]; exact HA2.out _ (by rw [List.length_drop, ← HN.out]; have := HQ.out; omega))
        have hw := hb.trans (hbr.mono hb.size)
        clear hkq HA
        go_wp2
        go_ret
        exact ⟨ret_bool (by rw [HG.out, HS.out]; simp), hw⟩
end Go.Proofs.Yteianfbdhakhpaa
/-! Times without some pulses. -/
namespace Go.Proofs.Yteianfbdhakhpaa
set_option linter.unusedSimpArgs false
set_option linter.unusedVariables false
open Go Go.RowKit

/-- A row of numbers of the call's own. -/
theorem own_nw {w : World} {base : Nat} {a : Option Addr} {n c : Nat} {xs : List Int} (h : w.ownsRow base 3 1 (.slice a n c) n (xs.map (Value.int .i64))) (hn : n = xs.length) (h1 : xs.length ≤ 9223372036854775807) (h2 : ∀ x ∈ xs, -9223372036854775808 ≤ x ∧ x ≤ 9223372036854775807) :
    Iz base w a xs ∧ xs.length ≤ c ∧ c ≤ 9223372036854775807 := by
  subst hn
  obtain ⟨a2, c2, e, hI⟩ := Ints.of_own h h1 h2
  simp only [Value.slice.injEq, true_and] at e
  obtain ⟨rfl, rfl⟩ := e
  rcases h.2 with ⟨e, h0⟩ | ⟨g, cap, cur, e, hb, hg, hc1, hc2, _⟩
  · simp only [Value.slice.injEq] at e
    obtain ⟨rfl, e0, rfl⟩ := e
    exact ⟨⟨hI, (fun _ e => nomatch e), (fun _ e => nomatch e)⟩, by omega, by omega⟩
  · simp only [Value.slice.injEq, true_and] at e
    obtain ⟨rfl, rfl⟩ := e
    unfold maxLen at hc2
    exact ⟨⟨hI, (fun ad e => by cases e; exact ⟨cur, (0, 0), hg⟩), (fun ad e => by cases e; exact hb)⟩, hc1, by omega⟩
theorem woA_take {sp : List Int} {ts P : List Int} {k : Nat} {x : Int} (h : woL ts sp = P ++ woA sp k (ts.drop k)) (hd : ts.drop k = x :: ts.drop (k + 1)) :
    woL ts sp = (if inL (k : Int) sp = true then P else P ++ [x]) ++ woA sp (k + 1) (ts.drop (k + 1)) := by
  rw [h, hd, woA]
  split <;> simp

set_option maxRecDepth 100000 in
set_option maxHeartbeats 4000000 in
theorem without_any (at' ap : Option Addr) (ct cp : Nat) (ts sp : List Int) (w : World) (hT : Ints w at' ts) (hP : Ints w ap sp) (h24 : ts.length ≤ 24) : Calls Try.prog 84 #[.slice at' ts.length ct, .slice ap sp.length cp] w fun e w' => Below w.heap.size w w' ∧ ∃ (a : Option Addr) (c : Nat), e = .returned (.slice a (woL ts sp).length c) ∧ Iz w.heap.size w' a (woL ts sp) ∧ (woL ts sp).length ≤ c ∧ c ≤ 9223372036854775807 := by
  obtain ⟨j0, hj0, jz0, jz1, jz2⟩ := info_parts info3i
  have hlp := hP.len
  have HRG := hid (show ∀ x ∈ woL ts sp, -9223372036854775808 ≤ x ∧ x ≤ 9223372036854775807 from fun x hx => hT.2.1 x (woA_mem sp ts 0 x hx))
  have HTK := hid (show ∀ (P : List Int) (k : Nat) (x : Int), woL ts sp = P ++ woA sp k (ts.drop k) → ts.drop k = x :: ts.drop (k + 1) → woL ts sp = (if inL (k : Int) sp = true then P else P ++ [x]) ++ woA sp (k + 1) (ts.drop (k + 1)) from fun P k x h hd => woA_take h hd)
  have HL := hid (show (woL ts sp).length ≤ ts.length from woA_len sp ts 0)
  have H0 := hid (show woL ts sp = [] ++ woA sp 0 (ts.drop 0) from rfl)
  have hcn := fun x V h => contains_any ap cp sp x V h
  obtain ⟨R, hR⟩ : ∃ R, R = woL ts sp := ⟨_, rfl⟩
  rw [← hR] at HRG HL H0 ⊢
  simp only [← hR] at HTK
  obtain ⟨n, hn⟩ : ∃ n, n = ts.length := ⟨_, rfl⟩
  rw [← hn] at h24 HL ⊢
  have HN := hid hn
  obtain ⟨m, hm⟩ : ∃ m, m = sp.length := ⟨_, rfl⟩
  rw [← hm] at hlp hcn ⊢
  clear hn hm hR
  have hnI : (n : Int) ≤ 24 := by omega
  go_enter Try.func84, Try.ntmps84
  go_wp2
  go_loopw [5, 6, 7, 10] (fun v5 v6 v7 v10 wr => ∃ (k p : Nat) (a : Option Addr) (c : Nat) (P : List Int), k ≤ n ∧ v10 = .int .i64 (k : Int) ∧ v5 = .slice a p c ∧ p ≤ k ∧ Hid (p = P.length ∧ R = P ++ woA sp k (ts.drop k)) ∧ wr.ownsRow w.heap.size 3 1 (.slice a p c) p (P.map (Value.int .i64)) ∧ Below w.heap.size w wr) (fun _ _ _ v10 _ => n - (intOf v10).toNat)
  case atStart => exact ⟨0, 0, none, 0, [], Nat.zero_le _, rfl, rfl, Nat.le_refl _, hid ⟨rfl, H0.out⟩, World.ownsRow_nil _ _ _ _, Below.refl _ _⟩
  case round =>
    obtain ⟨k, p, a, c, P, hk, rfl, rfl, hpk, HP, hown, hb⟩ := hrel
    by_cases hlt : k < n
    · obtain ⟨b1, o1, x, rfl, hbx, hcx, hx1, hx2, hgx, hdx⟩ := (hT.below hb (Nat.le_refl _)).at (k := k) (by rw [← HN.out]; exact hlt)
      have hkI : (k : Int) < n := by omega
      have hk0 : (0 : Int) ≤ (k : Int) := by omega
      have hst := HTK.out P k x HP.out.2 hdx.out
      have hc := hcn (k : Int) wr (hP.below hb (Nat.le_refl _))
      cases hin : inL (k : Int) sp with
      | true =>
        rw [hin] at hst hc
        have HS := hid (show p = P.length ∧ R = P ++ woA sp (k + 1) (ts.drop (k + 1)) from ⟨HP.out.1, by rw [hst]; rfl⟩)
        clear hst hin hgx hdx HP
        go_wp2_with fail
        refine hc.mono ?_
        rintro e V1 ⟨rfl, rfl⟩
        go_wp2
        go_roundw
        case rel => exact ⟨k + 1, p, a, c, P, by omega, by go_num, rfl, by omega, HS, hown, hb⟩
        case measure => simp [intOf]; omega
      | false =>
        rw [hin] at hst hc
        have HS := hid (show p + 1 = (P ++ [x]).length ∧ R = (P ++ [x]) ++ woA sp (k + 1) (ts.drop (k + 1)) from ⟨by rw [HP.out.1]; simp, by rw [hst]; rfl⟩)
        clear hst hin hgx hdx HP
        have hw0 := hb.size
        go_wp2_with (first
          | (refine hc.mono ?_; clear hc; rintro e V1 ⟨rfl, rfl⟩)
          | (at_builtin; go_loud (refine wpList_append_own _ rfl _ _ 22 rfl w.heap.size 3 j0 (.int .i64 0) 1 8 under22 hj0 jz0 jz1 jz2 rfl (by decide) (.slice a p c) p _ rfl (hown.alloc _) ⟨wr.heap.size, 0, none⟩ 1 1 [.int .i64 x] rfl rfl (cell_one_new _ _ _) (ints_oneCell .i64 [x]) (by unfold maxLen; omega) (by omega) (by simp; omega) ?_); intro v2 W2 hrow2 hg2 _))
        obtain ⟨a3, c3, rfl⟩ := own_slice2 hrow2
        have hbl2 : Below w.heap.size w W2 := (hb.trans ((below_one (w := wr) (.cells #[.int .i64 x] 3)).mono hb.size)).grown hg2 (by simp; omega) (own_ge hown)
        have hrow3 : W2.ownsRow w.heap.size 3 1 (.slice a3 (p + 1) c3) (p + 1) ((P ++ [x]).map (Value.int .i64)) := by simpa using hrow2
        clear hown hg2 hrow2 hb hcx
        go_wp2
        go_roundw
        case rel => exact ⟨k + 1, p + 1, a3, c3, P ++ [x], by omega, by go_num, rfl, by omega, HS, hrow3, hbl2⟩
        case measure => simp [intOf]; omega
    · have hkn : k = n := by omega
      have hR : R = P := by
        have := HP.out.2
        rw [List.drop_eq_nil_iff.2 (show ts.length ≤ k by rw [hkn, HN.out]; exact Nat.le_refl _)] at this
        rw [this]; simp [woA]
      have hpl := HP.out.1
      rw [← hR] at hpl hown
      have hz := own_nw hown hpl (by have := HL.out; omega) HRG.out
      have HZ := hid hz
      have HPL := hid hpl
      clear hkn hR hpl hz HP hown
      go_wp2
      go_ret
      exact ⟨hb, a, c, by rw [HPL.out]; rfl, HZ.out⟩
end Go.Proofs.Yteianfbdhakhpaa
