import Derived.Test.YteianfbdhakhpaaTA
/-! Readings that are asked about; counts of them. -/
namespace Go.Proofs.Yteianfbdhakhpaa
set_option linter.unusedSimpArgs false
set_option linter.unusedVariables false
open Go Go.RowKit

/-- The error of ask. -/
def erO (E : Int) (rs : List Rd) : Int := if E ≠ 0 then E else if rs = [] then 3 else 0
/-- A slice that reads as readings. -/
def Rds (B : Nat) (w : World) (a : Option Addr) (rs : List Rd) : Prop := ∀ (i : Nat) (r : Rd), rs[i]? = some r → ∃ (b off : Nat) (a1 : Option Addr) (c1 : Nat) (a2 : Option Addr) (c2 : Nat), a = some ⟨b, off, none⟩ ∧ b < w.heap.size ∧
  w.cell? ⟨b, off + i * 2, none⟩ = some (.slice a1 r.1.length c1) ∧ w.cell? ⟨b, off + i * 2 + 1, none⟩ = some (.slice a2 r.2.length c2) ∧ Iz B w a1 r.1 ∧ Iz B w a2 r.2
theorem Rds.below {B : Nat} {w w' : World} {a : Option Addr} {rs : List Rd} (h : Rds B w a rs) (hb : Below w.heap.size w w') : Rds B w' a rs := fun i r hi => by
  obtain ⟨b, off, a1, c1, a2, c2, h1, h2, h3, h4, h5, h6⟩ := h i r hi
  have hs := hb.size
  exact ⟨b, off, a1, c1, a2, c2, h1, by omega, by rw [hb.cell (p := ⟨b, off + i * 2, none⟩) h2]; exact h3, by rw [hb.cell (p := ⟨b, off + i * 2 + 1, none⟩) h2]; exact h4, h5.below hb, h6.below hb⟩
theorem Rds.of {B base : Nat} {w : World} {a : Option Addr} {c : Nat} {vs : List Value} {rs : List Rd} (h : w.ownsRow base 62 2 (.slice a rs.length c) rs.length vs) (hv : RvS B w vs rs) : Rds B w a rs := fun i r hi => by
  have hlt : i < rs.length := (List.getElem?_eq_some_iff.1 hi).1
  obtain ⟨a1, c1, a2, c2, q1, q2, q3, q4⟩ := hv.2 i r hi
  obtain ⟨g, cap, e⟩ := Go.Joins.ownsRow_form h (by omega)
  simp only [Value.slice.injEq] at e
  obtain ⟨rfl, _, rfl⟩ := e
  have e1 := World.ownsRow.cellAt h (i * 2) (by omega)
  have e2 := World.ownsRow.cellAt h (i * 2 + 1) (by omega)
  exact ⟨g, 0, a1, c1, a2, c2, rfl, (h.lt g rfl).2, by rw [Nat.zero_add, e1]; exact q1, by rw [Nat.zero_add, e2]; exact q2, q3, q4⟩
/-- ask with an error, and without. -/
theorem ask_bad (aT : Option Addr) (cT : Nat) (X : Pu) (o : Bool) (w : World) (hX : Ints w aT X.ts) (h : erO (chkE X o) (rdL X X.sp.toNat) ≠ 0) : Calls Try.prog 58 #[.agg #[.int .i64 X.l, .int .i64 X.n, .int .i64 X.pi, .int .i64 X.sl, .int .i64 X.ga, .int .i64 X.pa, .int .i64 X.sp, .slice aT X.ts.length cT], .bool o] w fun e w' => e = .returned (.tuple #[.slice none 0 0, .int .i64 (erO (chkE X o) (rdL X X.sp.toNat))]) ∧ Below w.heap.size w w' :=
  (ask_any aT cT X o w hX).mono fun e w' hh => by
    obtain ⟨hb, hh⟩ := hh
    unfold erO at h ⊢
    rcases hh with ⟨h1, rfl⟩ | ⟨h1, h2, rfl⟩ | ⟨h1, h2, -⟩
    · rw [if_pos h1]; exact ⟨rfl, hb⟩
    · rw [if_neg (by omega), if_pos h2]; exact ⟨rfl, hb⟩
    · rw [if_neg (by omega), if_neg h2] at h; omega
theorem ask_ok (aT : Option Addr) (cT : Nat) (X : Pu) (o : Bool) (w : World) (hX : Ints w aT X.ts) (h : erO (chkE X o) (rdL X X.sp.toNat) = 0) : Calls Try.prog 58 #[.agg #[.int .i64 X.l, .int .i64 X.n, .int .i64 X.pi, .int .i64 X.sl, .int .i64 X.ga, .int .i64 X.pa, .int .i64 X.sp, .slice aT X.ts.length cT], .bool o] w fun e w' => Below w.heap.size w w' ∧ ∃ (a : Option Addr) (c : Nat) (vs : List Value), e = .returned (.tuple #[.slice a (rdL X X.sp.toNat).length c, .int .i64 0]) ∧ w'.ownsRow w.heap.size 62 2 (.slice a (rdL X X.sp.toNat).length c) (rdL X X.sp.toNat).length vs ∧ RvS w.heap.size w' vs (rdL X X.sp.toNat) :=
  (ask_any aT cT X o w hX).mono fun e w' hh => by
    obtain ⟨hb, hh⟩ := hh
    unfold erO at h
    rcases hh with ⟨h1, rfl⟩ | ⟨h1, h2, rfl⟩ | ⟨h1, h2, h3⟩
    · rw [if_pos h1] at h; omega
    · rw [if_neg (by omega), if_pos h2] at h; omega
    · exact ⟨hb, h3⟩
theorem erO_zero {X : Pu} {o : Bool} (h : erO (chkE X o) (rdL X X.sp.toNat) = 0) : vB X = true ∧ o = true ∧ rdL X X.sp.toNat ≠ [] := by
  unfold erO at h
  by_cases h1 : chkE X o = 0
  · rw [if_neg (by omega)] at h
    by_cases h2 : rdL X X.sp.toNat = []
    · rw [if_pos h2] at h; omega
    · unfold chkE at h1
      cases hv : vB X
      · rw [hv] at h1; simp at h1
      · rw [hv] at h1
        cases o
        · simp at h1
        · exact ⟨rfl, rfl, h2⟩
  · rw [if_pos h1] at h; exact absurd h h1
theorem erO_len {X : Pu} (hv : vB X = true) : (rdL X X.sp.toNat).length ≤ 15625 := by
  obtain ⟨_, h2, h3⟩ := vB_ok hv
  exact rdL_len X _ (timesB_rng h3).1 (by omega)

set_option maxRecDepth 100000 in
set_option maxHeartbeats 2000000 in
theorem sameList_any (a1 b1 a2 b2 : Option Addr) (c1 d1 c2 d2 n1 m1 : Nat) (xs ys : List Int) (w : World) (hA : Ints w a2 xs) (hB : Ints w b2 ys) : Calls Try.prog 64 #[.agg #[.slice a1 n1 c1, .slice a2 xs.length c2], .agg #[.slice b1 m1 d1, .slice b2 ys.length d2]] w fun e w' => e = .returned (.bool (decide (xs = ys))) ∧ Below w.heap.size w w' := by
  obtain ⟨W, hW, hb, _, x0, x1⟩ := boxes2 w #[.slice a1 n1 c1, .slice a2 xs.length c2] 62 #[.slice b1 m1 d1, .slice b2 ys.length d2] 62
  have he := Equal_any a2 b2 c2 d2 xs ys W (hA.below hb (Nat.le_refl _)) (hB.below hb (Nat.le_refl _))
  generalize decide (xs = ys) = r at *
  generalize xs.length = n at *
  generalize ys.length = m at *
  have c0 := x0.cell 0 rfl; have c1 := x0.cell 1 rfl
  have d0 := x1.cell 0 rfl; have d1 := x1.cell 1 rfl
  go_enter Try.func64, Try.ntmps64
  go_wp2_with fail
  refine he.mono ?_
  rintro e W1 ⟨rfl, hb1⟩
  go_wp2
  go_ret
  exact ⟨rfl, hb.trans (hb1.mono hb.size)⟩
/-- Whether two readings have the same list. -/
def slB (r0 r : Rd) : Bool := decide (r.2 = r0.2)
set_option maxRecDepth 100000 in
set_option maxHeartbeats 2000000 in
theorem read1_any (B g : Nat) (a a1 a2 : Option Addr) (c c1 c2 n n1 : Nat) (rs : List Rd) (r0 : Rd) (hn : n = rs.length) (h0 : rs[0]? = some r0) (xs : List Int) (w : World) (hR : Rds B w a rs) (hA : Ints w a2 xs) (x0 : Bx w g #[.slice a n c] 67) : Calls Try.prog 91 #[.agg #[.slice a1 n1 c1, .slice a2 xs.length c2], .pointer (some ⟨g, 0, none⟩)] w fun e w' => e = .returned (.bool (decide (xs = r0.2))) ∧ Below w.heap.size w w' := by
  obtain ⟨b, off, e1, d1, e2, d2, rfl, hbl, q1, q2, i1, i2⟩ := hR 0 r0 h0
  have hpos : 0 < n := by rw [hn]; exact (List.getElem?_eq_some_iff.1 h0).1
  have hnI : (0 : Int) < (n : Int) := by omega
  have hz0 : ¬ n = 0 := by omega
  obtain ⟨W, hW, hb, _, y0⟩ := boxes1 w #[.slice a1 n1 c1, .slice a2 xs.length c2] 62
  have hsl := fun V (h : Below w.heap.size w V) => sameList_any a1 e1 a2 e2 c1 d1 c2 d2 n1 r0.1.length xs r0.2 V (hA.below h (Nat.le_refl _)) (i2.i.below h (Nat.le_refl _))
  have q1' : ClB w b off (.slice e1 r0.1.length d1) := ⟨by simpa using q1, hbl⟩
  have q2' : ClB w b (off + 1) (.slice e2 r0.2.length d2) := ⟨by simpa using q2, hbl⟩
  have k1 := q1'.below hb
  have k2 := q2'.below hb
  have x1 := x0.below hb
  generalize decide (xs = r0.2) = rr at *
  generalize xs.length = nx at *
  generalize r0.1.length = m1 at *
  generalize r0.2.length = m2 at *
  clear hn h0 hR hA i1 i2 q1 q2 q1' q2' x0 hpos
  have c0 := y0.cell 0 rfl; have c1 := y0.cell 1 rfl
  go_enter Try.func91, Try.ntmps91
  go_upto_region 1 with fail
  clear c0 c1 hW
  have S0 : BlS W W.drew := (Below.refl W.heap.size W).drew
  refine wp_region_head 5 (fun w' => BlS W w') (by kernel_rfl) rfl ?_
  generalize W.drew = Y0 at *
  refine HeadAt.take (i := 0) (.agg #[.slice a1 n1 c1, .slice a2 nx c2]) rfl (by kernel_rfl) (.inl ⟨rfl, fun w' z => ?_⟩) S0 ?_
  · (have z0 := (y0.below z).cell 0 rfl; have z1 := (y0.below z).cell 1 rfl; simp [go_sem, z0, z1])
  (try simp only [Act.put, List.getElem_toArray, List.getElem_cons_succ, List.getElem_cons_zero, List.setIfInBounds_toArray, List.set_cons_succ, List.set_cons_zero])
  refine HeadAt.take (i := 1) (.slice (some ⟨b, off, none⟩) n c) rfl (by kernel_rfl) (.inl ⟨rfl, fun w' z => ?_⟩) S0 ?_
  · (have z0 := (x1.below z).cell 0 rfl; simp [go_sem, z0])
  (try simp only [Act.put, List.getElem_toArray, List.getElem_cons_succ, List.getElem_cons_zero, List.setIfInBounds_toArray, List.set_cons_succ, List.set_cons_zero])
  refine HeadAt.take (i := 2) (.pointer (some ⟨b, off, none⟩)) rfl (by kernel_rfl) (.inl ⟨rfl, fun w' z => ?_⟩) S0 ?_
  · (simp [go_sem, hnI, hz0])
  (try simp only [Act.put, List.getElem_toArray, List.getElem_cons_succ, List.getElem_cons_zero, List.setIfInBounds_toArray, List.set_cons_succ, List.set_cons_zero])
  refine HeadAt.take (i := 3) (.agg #[.slice e1 m1 d1, .slice e2 m2 d2]) rfl (by kernel_rfl) (.inl ⟨rfl, fun w' z => ?_⟩) S0 ?_
  · (have z0 := (k1.below z).1; have z1 := (k2.below z).1; simp [go_sem, z0, z1])
  (try simp only [Act.put, List.getElem_toArray, List.getElem_cons_succ, List.getElem_cons_zero, List.setIfInBounds_toArray, List.set_cons_succ, List.set_cons_zero])
  refine HeadAt.one (i := 4) rfl (by kernel_rfl) ?_
  generalize hK : Upto _ _ = K0
  (try simp only [Act.put, List.getElem_toArray, List.getElem_cons_succ, List.getElem_cons_zero, List.setIfInBounds_toArray, List.set_cons_succ, List.set_cons_zero])
  go_wp2_with fail
  refine (hsl _ (hb.trans (Below.mono S0 hb.size))).mono ?_
  rintro e V4 ⟨rfl, hb4⟩
  go_wp2_with fail
  replace S0 : BlS W V4 := Below.trans S0 (hb4.mono (Below.size S0))
  clear hb4
  subst hK
  refine ⟨S0, ?_⟩
  (try simp only [Act.put, List.getElem_toArray, List.getElem_cons_succ, List.getElem_cons_zero, List.setIfInBounds_toArray, List.set_cons_succ, List.set_cons_zero])
  refine HeadAt.done (by kernel_rfl) ?_
  (try simp only [Act.put, List.drop_succ_cons, List.drop_zero, List.getElem_toArray, List.getElem_cons_succ, List.getElem_cons_zero])
  go_wp2_with fail
  refine NoPanic.normal ?_
  replace hb := hb.trans (Below.mono S0 hb.size)
  clear S0
  go_wp2
  go_ret
  exact ⟨rfl, hb⟩
set_option maxRecDepth 100000 in
set_option maxHeartbeats 2000000 in
theorem counted1_any (g : Nat) (a1 a2 : Option Addr) (e1 e2 n2 : Nat) (k : Int) (xs : List Int) (w : World) (hA : Ints w a1 xs) (x0 : Bx w g #[.int .i64 k] 3) : Calls Try.prog 93 #[.agg #[.slice a1 xs.length e1, .slice a2 n2 e2], .pointer (some ⟨g, 0, none⟩)] w fun e w' => e = .returned (.bool (inL k xs)) ∧ Below w.heap.size w w' := by
  obtain ⟨W, hW, hb, _, y0⟩ := boxes1 w #[.slice a1 xs.length e1, .slice a2 n2 e2] 62
  have hc := contains_any a1 e1 xs k W (hA.below hb (Nat.le_refl _))
  have x1 := x0.below hb
  generalize inL k xs = rr at *
  generalize xs.length = nx at *
  clear x0
  have c0 := y0.cell 0 rfl; have c1 := y0.cell 1 rfl
  have d0 := x1.cell 0 rfl
  go_enter Try.func93, Try.ntmps93
  go_wp2_with fail
  refine hc.mono ?_
  rintro e V ⟨rfl, rfl⟩
  go_wp2
  go_ret
  exact ⟨rfl, hb⟩
def cntR (f : Rd → Bool) (l : List Rd) : Nat := (l.filter f).length
set_option maxRecDepth 100000 in
set_option maxHeartbeats 3000000 in
theorem count91_any (g : Nat) (B : Nat) (a : Option Addr) (c : Nat) (l : List Rd) (f : Rd → Bool) (w : World) (hl : l.length ≤ 15625) (hI : Rds B w a l) (hf : ∀ V r a1 c1 a2 c2, Below w.heap.size w V → r ∈ l → Ints V a1 r.1 → Ints V a2 r.2 → Calls Try.prog 91 #[.agg #[.slice a1 r.1.length c1, .slice a2 r.2.length c2], .pointer (some ⟨g, 0, none⟩)] V fun e w' => e = .returned (.bool (f r)) ∧ Below V.heap.size V w') : Calls Try.prog 92 #[.slice a l.length c, .func (.func 91) #[] #[.pointer (some ⟨g, 0, none⟩)]] w fun e w' => e = .returned (.int .i64 (cntR f l)) ∧ Below w.heap.size w w' := by
  have hle : cntR f l ≤ l.length := List.length_filter_le _ _
  have HK := hid (show ∀ k x, l[k]? = some x → cntR f (l.take (k + 1)) = cntR f (l.take k) + if f x = true then 1 else 0 from fun k x h => by
    unfold cntR; rw [List.take_add_one, h, List.filter_append, List.length_append]
    cases hx : f x <;> simp [hx])
  have HLE := hid (show ∀ k, cntR f (l.take k) ≤ k from fun k => Nat.le_trans (List.length_filter_le _ _) (by rw [List.length_take]; omega))
  obtain ⟨R, hR⟩ : ∃ R, R = cntR f l := ⟨_, rfl⟩
  rw [← hR] at hle ⊢
  have HR := hid hR
  obtain ⟨n, hn⟩ : ∃ n, n = l.length := ⟨_, rfl⟩
  rw [← hn] at hl hle ⊢
  have HN := hid hn
  have HF := hid hf
  clear hn hR hf
  go_enter Try.func92, Try.ntmps92
  go_wp2
  go_loopw [5, 7, 10] (fun v5 v7 v10 wr => ∃ k q : Nat, k ≤ n ∧ v10 = .int .i64 (k : Int) ∧ v5 = .int .i64 (q : Int) ∧ Hid (q = cntR f (l.take k)) ∧ Below w.heap.size w wr) (fun _ _ v10 _ => n - (intOf v10).toNat)
  case atStart => exact ⟨0, 0, Nat.zero_le _, rfl, rfl, hid rfl, Below.refl _ _⟩
  case round =>
    obtain ⟨k, q, hk, rfl, rfl, HQ, hb⟩ := hrel
    by_cases hlt : k < n
    · obtain ⟨x, hx⟩ : ∃ x, l[k]? = some x := ⟨l[k]'(by rw [← HN.out]; exact hlt), List.getElem?_eq_getElem _⟩
      obtain ⟨b, off, a1, c1, a2, c2, rfl, hbl, q1, q2, i1, i2⟩ := (hI.below hb) k x hx
      have hkI : (k : Int) < n := by omega
      have hk0 : (0 : Int) ≤ (k : Int) := by omega
      have hq1 : q ≤ k := by rw [HQ.out]; exact HLE.out k
      have hba := below_one (w := wr) (.cells #[.slice a1 x.1.length c1, .slice a2 x.2.length c2] 62)
      have hcall := HF.out (wr.alloc (.cells #[.slice a1 x.1.length c1, .slice a2 x.2.length c2] 62)) x a1 c1 a2 c2 (hb.trans (hba.mono hb.size)) (List.mem_of_getElem? hx) (i1.i.below hba (Nat.le_refl _)) (i2.i.below hba (Nat.le_refl _))
      have hs := HK.out k x hx
      rw [← HQ.out] at hs
      have hb2 := hb.trans (hba.mono hb.size)
      generalize hfx : f x = fx at *
      generalize x.1.length = n1 at *
      generalize x.2.length = n2 at *
      clear hx hfx hba i1 i2
      cases fx with
      | true =>
        have HS := hid (show q + 1 = cntR f (l.take (k + 1)) by rw [hs]; rfl)
        clear hs
        go_wp2_with fail
        refine hcall.mono ?_
        rintro e V1 ⟨rfl, hb1⟩
        replace hb2 := hb2.trans (hb1.mono hb2.size)
        clear hb1 hcall q1 q2
        go_wp2
        go_roundw
        case rel => exact ⟨k + 1, q + 1, by omega, by go_num, by go_num, HS, hb2⟩
        case measure => simp [intOf]; omega
      | false =>
        have HS := hid (show q = cntR f (l.take (k + 1)) by rw [hs]; rfl)
        clear hs
        go_wp2_with fail
        refine hcall.mono ?_
        rintro e V1 ⟨rfl, hb1⟩
        replace hb2 := hb2.trans (hb1.mono hb2.size)
        clear hb1 hcall q1 q2
        go_wp2
        go_roundw
        case rel => exact ⟨k + 1, q, by omega, by go_num, rfl, HS, hb2⟩
        case measure => simp [intOf]; omega
    · have hkn : k = n := by omega
      have hq := HQ.out
      rw [List.take_of_length_le (by rw [hkn, HN.out]; exact Nat.le_refl _), ← HR.out] at hq
      have HQ2 := hid hq
      clear hq HQ
      go_wp2
      go_ret
      exact ⟨ret_int (by rw [HQ2.out]), hb⟩
set_option maxRecDepth 100000 in
set_option maxHeartbeats 3000000 in
theorem count93_any (g : Nat) (B : Nat) (a : Option Addr) (c : Nat) (l : List Rd) (f : Rd → Bool) (w : World) (hl : l.length ≤ 15625) (hI : Rds B w a l) (hf : ∀ V r a1 c1 a2 c2, Below w.heap.size w V → r ∈ l → Ints V a1 r.1 → Ints V a2 r.2 → Calls Try.prog 93 #[.agg #[.slice a1 r.1.length c1, .slice a2 r.2.length c2], .pointer (some ⟨g, 0, none⟩)] V fun e w' => e = .returned (.bool (f r)) ∧ Below V.heap.size V w') : Calls Try.prog 92 #[.slice a l.length c, .func (.func 93) #[] #[.pointer (some ⟨g, 0, none⟩)]] w fun e w' => e = .returned (.int .i64 (cntR f l)) ∧ Below w.heap.size w w' := by
  have hle : cntR f l ≤ l.length := List.length_filter_le _ _
  have HK := hid (show ∀ k x, l[k]? = some x → cntR f (l.take (k + 1)) = cntR f (l.take k) + if f x = true then 1 else 0 from fun k x h => by
    unfold cntR; rw [List.take_add_one, h, List.filter_append, List.length_append]
    cases hx : f x <;> simp [hx])
  have HLE := hid (show ∀ k, cntR f (l.take k) ≤ k from fun k => Nat.le_trans (List.length_filter_le _ _) (by rw [List.length_take]; omega))
  obtain ⟨R, hR⟩ : ∃ R, R = cntR f l := ⟨_, rfl⟩
  rw [← hR] at hle ⊢
  have HR := hid hR
  obtain ⟨n, hn⟩ : ∃ n, n = l.length := ⟨_, rfl⟩
  rw [← hn] at hl hle ⊢
  have HN := hid hn
  have HF := hid hf
  clear hn hR hf
  go_enter Try.func92, Try.ntmps92
  go_wp2
  go_loopw [5, 7, 10] (fun v5 v7 v10 wr => ∃ k q : Nat, k ≤ n ∧ v10 = .int .i64 (k : Int) ∧ v5 = .int .i64 (q : Int) ∧ Hid (q = cntR f (l.take k)) ∧ Below w.heap.size w wr) (fun _ _ v10 _ => n - (intOf v10).toNat)
  case atStart => exact ⟨0, 0, Nat.zero_le _, rfl, rfl, hid rfl, Below.refl _ _⟩
  case round =>
    obtain ⟨k, q, hk, rfl, rfl, HQ, hb⟩ := hrel
    by_cases hlt : k < n
    · obtain ⟨x, hx⟩ : ∃ x, l[k]? = some x := ⟨l[k]'(by rw [← HN.out]; exact hlt), List.getElem?_eq_getElem _⟩
      obtain ⟨b, off, a1, c1, a2, c2, rfl, hbl, q1, q2, i1, i2⟩ := (hI.below hb) k x hx
      have hkI : (k : Int) < n := by omega
      have hk0 : (0 : Int) ≤ (k : Int) := by omega
      have hq1 : q ≤ k := by rw [HQ.out]; exact HLE.out k
      have hba := below_one (w := wr) (.cells #[.slice a1 x.1.length c1, .slice a2 x.2.length c2] 62)
      have hcall := HF.out (wr.alloc (.cells #[.slice a1 x.1.length c1, .slice a2 x.2.length c2] 62)) x a1 c1 a2 c2 (hb.trans (hba.mono hb.size)) (List.mem_of_getElem? hx) (i1.i.below hba (Nat.le_refl _)) (i2.i.below hba (Nat.le_refl _))
      have hs := HK.out k x hx
      rw [← HQ.out] at hs
      have hb2 := hb.trans (hba.mono hb.size)
      generalize hfx : f x = fx at *
      generalize x.1.length = n1 at *
      generalize x.2.length = n2 at *
      clear hx hfx hba i1 i2
      cases fx with
      | true =>
        have HS := hid (show q + 1 = cntR f (l.take (k + 1)) by rw [hs]; rfl)
        clear hs
        go_wp2_with fail
        refine hcall.mono ?_
        rintro e V1 ⟨rfl, hb1⟩
        replace hb2 := hb2.trans (hb1.mono hb2.size)
        clear hb1 hcall q1 q2
        go_wp2
        go_roundw
        case rel => exact ⟨k + 1, q + 1, by omega, by go_num, by go_num, HS, hb2⟩
        case measure => simp [intOf]; omega
      | false =>
        have HS := hid (show q = cntR f (l.take (k + 1)) by rw [hs]; rfl)
        clear hs
        go_wp2_with fail
        refine hcall.mono ?_
        rintro e V1 ⟨rfl, hb1⟩
        replace hb2 := hb2.trans (hb1.mono hb2.size)
        clear hb1 hcall q1 q2
        go_wp2
        go_roundw
        case rel => exact ⟨k + 1, q, by omega, by go_num, rfl, HS, hb2⟩
        case measure => simp [intOf]; omega
    · have hkn : k = n := by omega
      have hq := HQ.out
      rw [List.take_of_length_le (by rw [hkn, HN.out]; exact Nat.le_refl _), ← HR.out] at hq
      have HQ2 := hid hq
      clear hq HQ
      go_wp2
      go_ret
      exact ⟨ret_int (by rw [HQ2.out]), hb⟩
set_option maxRecDepth 100000 in
set_option maxHeartbeats 2000000 in
theorem all91_any (B g : Nat) (a : Option Addr) (c : Nat) (rs : List Rd) (r0 : Rd) (h0 : rs[0]? = some r0) (w : World) (hl : rs.length ≤ 15625) (hR : Rds B w a rs) (x0 : Bx w g #[.slice a rs.length c] 67) : Calls Try.prog 90 #[.slice a rs.length c, .func (.func 91) #[] #[.pointer (some ⟨g, 0, none⟩)]] w fun e w' => e = .returned (.bool (decide (cntR (slB r0) rs = rs.length))) ∧ Below w.heap.size w w' := by
  have hc := count91_any g B a c rs (slB r0) w hl hR (fun V r a1 c1 a2 c2 hb _ hi1 hi2 => read1_any B g a a1 a2 c c1 c2 rs.length r.1.length rs r0 rfl h0 r.2 V (hR.below hb) hi2 (x0.below hb))
  generalize cntR (slB r0) rs = q at *
  obtain ⟨n, hn⟩ : ∃ n, n = rs.length := ⟨_, rfl⟩
  rw [← hn] at hc ⊢
  clear hn h0 hR x0
  have HE := hid (show ((q : Int) == (n : Int)) = decide (q = n) by
    by_cases h : q = n
    · simp [h]
    · rw [decide_eq_false h, beq_eq_false_iff_ne]; omega)
  go_enter Try.func90, Try.ntmps90
  go_wp2_with fail
  refine hc.mono ?_
  rintro e V1 ⟨rfl, hb1⟩
  go_wp2
  go_ret
  exact ⟨ret_bool (by first | exact HE.out | (rw [← HE.out])), hb1⟩
end Go.Proofs.Yteianfbdhakhpaa
