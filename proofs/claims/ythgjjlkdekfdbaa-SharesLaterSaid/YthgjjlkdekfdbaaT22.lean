import Derived.Test.YthgjjlkdekfdbaaM7
/-! The reference's looks at orders. -/
namespace Go.Proofs.Ythgjjlkdekfdbaa
set_option linter.unusedSimpArgs false
set_option linter.unusedVariables false
open Go Go.RowKit

set_option maxRecDepth 100000 in
set_option maxHeartbeats 2000000 in
theorem in_any (a : Option Addr) (c : Nat) (l : List Int) (x : Int) (w : World) (hI : Ints w a l) : Calls Try.prog 65 #[.slice a l.length c, .int .i64 x] w fun e w' => e = .returned (.bool (inL x l)) ∧ w = w' := by
  have hlen := hI.len
  obtain ⟨n, hn⟩ : ∃ n, n = l.length := ⟨_, rfl⟩
  rw [← hn] at hlen ⊢
  have HN := hid hn
  obtain ⟨r, hr⟩ : ∃ r, r = inL x l := ⟨_, rfl⟩
  rw [← hr]
  have HR0 := hid hr
  clear hn hr
  go_enter Try.func65, Try.ntmps65
  go_wp2
  go_loopw [5] (fun v5 wr => ∃ k : Nat, k ≤ n ∧ v5 = .int .i64 (k : Int) ∧ Hid ((l.take k).any (fun y => x == y) = false) ∧ wr = w) (fun v5 _ => n - (intOf v5).toNat)
  case atStart => exact ⟨0, Nat.zero_le _, rfl, hid rfl, rfl⟩
  case round =>
    obtain ⟨k, hk, rfl, HA, rfl⟩ := hrel
    by_cases hlt : k < n
    · obtain ⟨b, off, y, rfl, hbl, hc, hx1, hx2, hg, _⟩ := hI.at (k := k) (by rw [← HN.out]; exact hlt)
      have hkI : (k : Int) < n := by omega
      have hk0 : (0 : Int) ≤ (k : Int) := by omega
      by_cases he : x = y
      · have hEQ : (y == x) = true := by simp [he]
        have HR := hid (show r = true by rw [HR0.out]; unfold inL; rw [List.any_eq_true]; exact ⟨y, List.mem_of_getElem? hg.out, by simp [he]⟩)
        clear he hg
        go_wp2
        go_ret
        exact ⟨ret_bool (by rw [HR.out]), rfl⟩
      · have hEQ : (y == x) = false := by simp; exact fun h => he h.symm
        have HR := hid (show (l.take (k + 1)).any (fun y => x == y) = false by rw [List.take_add_one, hg.out, List.any_append, HA.out]; simp [he])
        clear he hg
        go_wp2
        go_roundw
        case rel => exact ⟨k + 1, by omega, by simp, HR, trivial⟩
        case measure => simp [intOf]; omega
    · obtain rfl : k = n := by omega
      have hA := HA.out
      rw [List.take_of_length_le (by rw [← HN.out]; omega)] at hA
      have HA2 := hid (show r = false by rw [HR0.out]; exact hA)
      clear hA
      go_wp2
      go_ret
      exact ⟨ret_bool (by rw [HA2.out]), rfl⟩

theorem isO_no {n : Nat} {os : List Int} {k : Nat} (hk : k < n) (h : inL (k : Int) os = false) : isO n os = false := by
  rw [← Bool.not_eq_true]
  intro hh
  have := (isO_iff.1 hh).1 k hk
  rw [← inL_iff, h] at this
  cases this
set_option maxRecDepth 100000 in
set_option maxHeartbeats 2000000 in
theorem IsOrder_any (ac : Option Addr) (cc : Nat) (cs : List Cl) (L : Int) (ao : Option Addr) (co : Nat) (os : List Int) (w : World) (hl : cs.length ≤ 1000) (hO : Ints w ao os) : Calls Try.prog 43 #[.agg #[.slice ac cs.length cc, .int .i64 L], .slice ao os.length co] w fun e w' => e = .returned (.bool (isO cs.length os)) ∧ Below w.heap.size w w' := by
  obtain ⟨W, hW, hb, _, x0⟩ := boxes1 w #[.slice ac cs.length cc, .int .i64 L] 24
  have hO1 := hO.below hb (Nat.le_refl _)
  have hin := fun i V hh => in_any ao co os i V hh
  have lo := hO.len
  obtain ⟨n, hn⟩ : ∃ n, n = cs.length := ⟨_, rfl⟩
  obtain ⟨m, hm⟩ : ∃ m, m = os.length := ⟨_, rfl⟩
  obtain ⟨r, hr⟩ : ∃ r, r = isO n os := ⟨_, rfl⟩
  rw [← hn] at hl x0 hW ⊢
  rw [← hm] at hin lo ⊢
  rw [← hr]
  have HM := hid hm; have HR := hid hr
  clear hn hm hr hO
  go_enter Try.func43, Try.ntmps43
  go_wp2
  clear hW
  go_loopw [5] (fun v5 wr => ∃ k : Nat, k ≤ n ∧ v5 = .int .i64 (k : Int) ∧ Hid (∀ i, i < k → inL ((i : Nat) : Int) os = true) ∧ Below W.heap.size W wr) (fun v5 _ => n - (intOf v5).toNat)
  case atStart => exact ⟨0, Nat.zero_le _, rfl, hid (fun i hi => by omega), Below.refl _ _⟩
  case round =>
    obtain ⟨k, hk, rfl, HA, hb1⟩ := hrel
    have hbr := hb.trans (hb1.mono hb.size)
    have x0r := x0.below hb1
    have c0 := x0r.cell 0 rfl
    by_cases hlt : k < n
    · have hkI : (k : Int) < n := by omega
      have hi := hin (k : Int) wr (hO1.below hb1 (Nat.le_refl _))
      cases hbb : inL (k : Int) os
      · have HF := hid (show r = false by rw [HR.out]; exact isO_no hlt hbb)
        rw [hbb] at hi
        clear hbb hin
        go_wp2_with fail
        refine hi.mono ?_
        rintro e V1 ⟨rfl, rfl⟩
        go_wp2
        go_ret
        exact ⟨ret_bool (by rw [HF.out]), hbr⟩
      · have HF := hid (show ∀ i, i < k + 1 → inL ((i : Nat) : Int) os = true from fun i hi => by
          rcases Nat.lt_succ_iff_lt_or_eq.1 hi with h | h
          · exact HA.out i h
          · rw [h]; exact hbb)
        rw [hbb] at hi
        clear hbb hin
        go_wp2_with fail
        refine hi.mono ?_
        rintro e V1 ⟨rfl, rfl⟩
        go_wp2
        go_roundw
        case rel => exact ⟨k + 1, by omega, by simp, HF, hb1⟩
        case measure => simp [intOf]; omega
    · have hkn : k = n := by omega
      have hkI : ¬ (k : Int) < n := by omega
      obtain ⟨b, hbb⟩ : ∃ b, b = decide (m = n) := ⟨_, rfl⟩
      have HF := hid (show r = b by
        rw [HR.out, hbb]
        unfold isO
        rw [show (List.range n).all (fun i => inL (i : Int) os) = true from List.all_eq_true.2 fun i hi => HA.out i (by rw [hkn]; simpa using hi), Bool.true_and, HM.out])
      have hq : ((m : Int) == (n : Int)) = b := by
        rw [hbb]
        by_cases h : m = n
        · rw [decide_eq_true h]; simp [h]
        · rw [decide_eq_false h]; simp; omega
      clear hbb hin HA hkn
      go_wp2
      go_ret
      exact ⟨ret_bool (by rw [HF.out]), hbr⟩

set_option maxRecDepth 100000 in
set_option maxHeartbeats 6000000 in
theorem refOrdered_any (ac : Option Addr) (cc : Nat) (cs : List Cl) (L : Int) (ao : Option Addr) (co : Nat) (os : List Int) (hos : os.length ≤ 40) (hr : ∀ x ∈ os, 0 ≤ x ∧ x < (cs.length : Int)) (w : World) (hX : Clz w ac cs) (hO : Ints w ao os) : Calls Try.prog 44 #[.agg #[.slice ac cs.length cc, .int .i64 L], .slice ao os.length co] w fun e w' => ∃ (a : Option Addr) (c : Nat), e = .returned (.agg #[.slice a (ordC cs os).length c, .int .i64 L]) ∧ Clz w' a (ordC cs os) ∧ Below w.heap.size w w' := by
  obtain ⟨j0, hj0, jz0, jz1, jz2⟩ := info_parts info56
  obtain ⟨W, hW, hb, hs, x0, x1⟩ := boxes2 w #[.slice ac cs.length cc, .int .i64 L] 24 #[.slice none 0 0, .int .i64 0] 24
  have c0 := x0.cell 0 rfl; have c1 := x0.cell 1 rfl
  have hbn := below_one (w := W) (.cells #[.slice none 0 0, .int .i64 L] 24)
  have x2 := Bx.new W #[.slice none 0 0, .int .i64 L] 24
  have E0 : OrW w ac cc cs.length L 0 (.slice none 0 0) [] (W.alloc (.cells #[.slice none 0 0, .int .i64 L] 24)) :=
    ⟨x0.below hbn, x1.below hbn, by rw [hs] at x2; exact x2, World.ownsRow_nil _ _ _ _, hb.trans (hbn.mono hb.size), by simp; omega⟩
  clear hbn x2 x0 x1 hb
  have hi64 : ∀ x ∈ ordC cs os, x.i64 := fun x hx => by
    simp only [ordC, List.mem_map] at hx
    obtain ⟨i, hi, rfl⟩ := hx
    have := hr i hi
    rw [List.getD_eq_getElem?_getD, List.getElem?_eq_getElem (show i.toNat < cs.length by omega)]
    exact hX.2.1 _ (by simp)
  have hol : (ordC cs os).length = os.length := by simp [ordC]
  have HI := hid hi64
  have HOL := hid hol
  have hlen := hX.len
  obtain ⟨n, hn⟩ : ∃ n, n = cs.length := ⟨_, rfl⟩
  rw [← hn] at E0 hr hlen c0 hW ⊢
  have HN := hid hn
  obtain ⟨m, hm⟩ : ∃ m, m = os.length := ⟨_, rfl⟩
  rw [← hm] at hos ⊢
  have HM := hid hm
  have HR := hid hr
  clear hn hm hi64 hol hr
  have hmI : (m : Int) ≤ 40 := by omega
  go_enter Try.func44, Try.ntmps44
  go_upto_region 2 with fail
  clear c0 c1
  generalize W.alloc _ = W2 at *
  clear hW hs
  go_wp2
  go_loopw [6] (fun v6 wr => ∃ (k : Nat) (v : Value), k ≤ m ∧ v6 = .int .i64 (k : Int) ∧ OrW w ac cc n L k v (ordC cs (os.take k)) wr) (fun v6 _ => m - (intOf v6).toNat)
  case atStart => exact ⟨0, _, Nat.zero_le _, rfl, E0⟩
  case round =>
    clear E0
    obtain ⟨k, v, hk, rfl, E⟩ := hrel
    by_cases hlt : k < m
    · have hOr := hO.below E.bl (Nat.le_refl _)
      obtain ⟨b, off, i, rfl, hbl, hc, _, _, hg, _⟩ := hOr.at (k := k) (by rw [← HM.out]; exact hlt)
      have hir := HR.out i (List.mem_of_getElem? hg.out)
      obtain ⟨j, rfl⟩ := Int.eq_ofNat_of_zero_le hir.1
      have hjn : j < n := by omega
      obtain ⟨bc, offc, x, rfl, hblc, hx4, hxi, hmem, hgx, _, _⟩ := (hX.below E.bl (Nat.le_refl _)).at (k := j) (by rw [← HN.out]; exact hjn)
      have hblw : bc < w.heap.size := by
        obtain ⟨b', off', e, hlt', _⟩ := hX.2.2 j (by rw [← HN.out]; exact hjn)
        cases e; exact hlt'
      have hkI : (k : Int) < (m : Int) := by omega
      have hk0 : (0 : Int) ≤ (k : Int) := by omega
      have hjI : (j : Int) < (n : Int) := by omega
      have hj0' : (0 : Int) ≤ (j : Int) := by omega
      have HT := hid (show ordC cs (os.take (k + 1)) = ordC cs (os.take k) ++ [x] by
        rw [List.take_add_one, hg.out, Option.toList_some, ordC_snoc, Int.toNat_natCast, List.getD_eq_getElem?_getD, hgx.out]; rfl)
      have hk40 : k ≤ 40 := by omega
      clear hOr hg hgx hmem hbl hblc hir
      have hblo : b < w.heap.size := by
        obtain ⟨b', off', e, hlt', _⟩ := hO.2.2 k (by rw [← HM.out]; exact hlt)
        cases e; exact hlt'
      go_upto_region 5 with fail
      obtain ⟨x0, x1, x2, own, bl, sz⟩ := E
      have hbd := (Below.refl wr.heap.size wr).drew
      have S0 := And.intro (x0.below hbd) (And.intro (x2.below hbd) (And.intro (show At4 wr.drew bc (offc + j * 4) x from hx4) (show wr.drew.cell? ⟨b, off + k, none⟩ = some (.int .i64 (j : Int)) from hc)))
      have y1 := x1.below hbd
      have own1 := own_below2 own hbd
      have bl1 := bl.trans (hbd.mono bl.size)
      have sz1 : w.heap.size + 3 ≤ wr.drew.heap.size := sz
      clear x0 x1 x2 own bl sz hbd hx4 hc
      refine wp_region_head 12 (fun w' => Bx w' w.heap.size #[.slice (some ⟨bc, offc, none⟩) n cc, .int .i64 L] 24 ∧ Bx w' (w.heap.size + 1 + 1) #[v, .int .i64 L] 24 ∧ At4 w' bc (offc + j * 4) x ∧ w'.cell? ⟨b, off + k, none⟩ = some (.int .i64 (j : Int))) (by kernel_rfl) rfl ?_
      generalize wr.drew = Y0 at *
      refine HeadAt.take (i := 0) (.pointer (some ⟨w.heap.size + 1 + 1, 0, none⟩)) rfl (by kernel_rfl) (.inl ⟨rfl, fun _ _ => by simp [go_sem]⟩) S0 ?_
      (try simp only [Act.put, List.getElem_toArray, List.getElem_cons_succ, List.getElem_cons_zero, List.setIfInBounds_toArray, List.set_cons_succ, List.set_cons_zero])
      refine HeadAt.take (i := 1) (v) rfl (by kernel_rfl) (.inl ⟨rfl, fun w' z => ?_⟩) S0 ?_
      · (have z0 := z.2.1.cell 0 rfl; simp [go_sem, z0])
      refine HeadAt.take (i := 2) (.pointer (some ⟨w.heap.size, 0, none⟩)) rfl (by kernel_rfl) (.inl ⟨rfl, fun _ _ => by simp [go_sem]⟩) S0 ?_
      (try simp only [Act.put, List.getElem_toArray, List.getElem_cons_succ, List.getElem_cons_zero, List.setIfInBounds_toArray, List.set_cons_succ, List.set_cons_zero])
      refine HeadAt.take (i := 3) (.slice (some ⟨bc, offc, none⟩) n cc) rfl (by kernel_rfl) (.inl ⟨rfl, fun w' z => ?_⟩) S0 ?_
      · (have z0 := z.1.cell 0 rfl; simp [go_sem, z0])
      refine HeadAt.take (i := 4) (.slice (some ⟨b, off, none⟩) m co) rfl (by kernel_rfl) (.inl ⟨rfl, fun _ _ => by simp [go_sem]⟩) S0 ?_
      refine HeadAt.take (i := 5) (.int .i64 (k : Int)) rfl (by kernel_rfl) (.inl ⟨rfl, fun _ _ => by simp [go_sem]⟩) S0 ?_
      (try simp only [Act.put, List.getElem_toArray, List.getElem_cons_succ, List.getElem_cons_zero, List.setIfInBounds_toArray, List.set_cons_succ, List.set_cons_zero])
      refine HeadAt.take (i := 6) (.pointer (some ⟨b, off + k, none⟩)) rfl (by kernel_rfl) (.inl ⟨rfl, fun w' z => ?_⟩) S0 ?_
      · (simp [go_sem, hkI, hk0])
      (try simp only [Act.put, List.getElem_toArray, List.getElem_cons_succ, List.getElem_cons_zero, List.setIfInBounds_toArray, List.set_cons_succ, List.set_cons_zero])
      refine HeadAt.take (i := 7) (.int .i64 (j : Int)) rfl (by kernel_rfl) (.inl ⟨rfl, fun w' z => ?_⟩) S0 ?_
      · (have z0 := z.2.2.2; simp [go_sem, z0])
      (try simp only [Act.put, List.getElem_toArray, List.getElem_cons_succ, List.getElem_cons_zero, List.setIfInBounds_toArray, List.set_cons_succ, List.set_cons_zero])
      refine HeadAt.take (i := 8) (.pointer (some ⟨bc, offc + j * 4, none⟩)) rfl (by kernel_rfl) (.inl ⟨rfl, fun w' z => ?_⟩) S0 ?_
      · (simp [go_sem, hjI, hj0'])
      (try simp only [Act.put, List.getElem_toArray, List.getElem_cons_succ, List.getElem_cons_zero, List.setIfInBounds_toArray, List.set_cons_succ, List.set_cons_zero])
      refine HeadAt.take (i := 9) (.agg #[.int .i64 x.k, .int .i64 x.c, .int .i64 x.p, .int .i64 x.m]) rfl (by kernel_rfl) (.inl ⟨rfl, fun w' z => ?_⟩) S0 ?_
      · (obtain ⟨z0, z1, z2, z3⟩ := z.2.2.1; simp [go_sem, z0, z1, z2, z3])
      (try simp only [Act.put, List.getElem_toArray, List.getElem_cons_succ, List.getElem_cons_zero, List.setIfInBounds_toArray, List.set_cons_succ, List.set_cons_zero])
      refine HeadAt.one (i := 10) rfl (by kernel_rfl) ?_
      generalize hK : Upto _ _ = K0
      (try simp only [Act.put, List.getElem_toArray, List.getElem_cons_succ, List.getElem_cons_zero, List.setIfInBounds_toArray, List.set_cons_succ, List.set_cons_zero])
      have hba := below_one (w := Y0) (.cells #[.int .i64 x.k, .int .i64 x.c, .int .i64 x.p, .int .i64 x.m] 56)
      have hnx := Bx.new Y0 #[.int .i64 x.k, .int .i64 x.c, .int .i64 x.p, .int .i64 x.m] 56
      have S1 := And.intro (S0.1.below hba) (And.intro (S0.2.1.below hba) (And.intro (S0.2.2.1.eq (hba.block bc (by omega))) (Below.keep hba S0.2.2.2)))
      have y2 := y1.below hba
      have own2 := own_below2 own1 hba
      have bl2 := bl1.trans (hba.mono bl1.size)
      have sz2 : w.heap.size + 3 ≤ (Y0.alloc (.cells #[.int .i64 x.k, .int .i64 x.c, .int .i64 x.p, .int .i64 x.m] 56)).heap.size := by simp; omega
      have HY := hid (And.intro S1 (And.intro y2 (And.intro own2 (And.intro bl2 (And.intro sz2 hnx)))))
      clear S0 S1 y1 y2 own1 own2 bl1 bl2 sz1 sz2 hba hnx
      go_wp2_with fail
      obtain ⟨S0, y1, own, bl, sz, hnx⟩ := HY.out
      clear HY
      generalize Y0.heap.size = gn at *
      generalize Y0.alloc _ = Y1 at *
      subst hK
      refine ⟨S0, ?_⟩
      (try simp only [Act.put, List.getElem_toArray, List.getElem_cons_succ, List.getElem_cons_zero, List.setIfInBounds_toArray, List.set_cons_succ, List.set_cons_zero])
      refine HeadAt.one (i := 11) rfl (by kernel_rfl) ?_
      generalize hK : Upto _ _ = K0
      (try simp only [Act.put, List.getElem_toArray, List.getElem_cons_succ, List.getElem_cons_zero, List.setIfInBounds_toArray, List.set_cons_succ, List.set_cons_zero])
      have hcl := Cls.of_bx hnx
      have hge := own_ge2 own
      go_wp2_with (at_builtin; refine wpList_app rfl _ _ 22 rfl (w.heap.size + 3) 56 j0 _ 4 32 under22 hj0 jz0 jz1 jz2 rfl (by decide) v k (ccells (ordC cs (os.take k))) rfl own (some ⟨gn, 0, none⟩) 1 1 (ccells [x]) rfl rfl hcl (ccells_one _) (by unfold maxLen; omega) (by omega) (by omega) ?_; intro v2 Y2 own2 hg2)
      have S1 := And.intro (S0.1.gb hg2 (fun q hq => by have := hge q hq; omega)) (And.intro (S0.2.1.gb hg2 (fun q hq => by have := hge q hq; omega)) (And.intro (S0.2.2.1.eq (hg2.block bc (by omega) (fun e => by have := hge bc e.symm; omega))) (show Y2.cell? ⟨b, off + k, none⟩ = some (.int .i64 (j : Int)) from by rw [World.cell?_of_block (w := Y1) (hg2.block b (by omega) (fun e => by have := hge b e.symm; omega))]; exact S0.2.2.2)))
      have y2 := y1.gb hg2 (fun q hq => by have := hge q hq; omega)
      have bl2 := bl.grown hg2 (by omega) (fun q hq => by have := hge q hq; omega)
      have sz2 : w.heap.size + 3 ≤ Y2.heap.size := Nat.le_trans sz hg2.size
      clear S0 y1 bl sz hge hcl hnx own hg2
      subst hK
      refine ⟨S1, ?_⟩
      (try simp only [Act.put, List.getElem_toArray, List.getElem_cons_succ, List.getElem_cons_zero, List.setIfInBounds_toArray, List.set_cons_succ, List.set_cons_zero])
      refine HeadAt.done (by kernel_rfl) ?_
      (try simp only [Act.put, List.drop_succ_cons, List.drop_zero, List.getElem_toArray, List.getElem_cons_succ, List.getElem_cons_zero])
      have z1 := S1.2.1.cell 0 rfl
      have zf := S1.2.1.free 0
      have hgs : Y2.grownBy (Y2.setCell ⟨w.heap.size + 1 + 1, 0, none⟩ v2) (some (w.heap.size + 1 + 1)) := gset Y2 _ _
      have own3 := own_keep own2 hgs (fun q hq e => by have := own_ge2 own2 q hq; injection e with e; omega)
      have q0 := S1.1.other (a := ⟨w.heap.size + 1 + 1, 0, none⟩) (by show w.heap.size ≠ w.heap.size + 1 + 1; omega) v2
      have q1 := y2.other (a := ⟨w.heap.size + 1 + 1, 0, none⟩) (by show w.heap.size + 1 ≠ w.heap.size + 1 + 1; omega) v2
      have q2 := S1.2.1.put2_0 v2
      have q3 := bl2.setCell (p := ⟨w.heap.size + 1 + 1, 0, none⟩) (by show w.heap.size ≤ w.heap.size + 1 + 1; omega) v2
      have q4 : w.heap.size + 3 ≤ (Y2.setCell ⟨w.heap.size + 1 + 1, 0, none⟩ v2).heap.size := by simpa [World.setCell] using sz2
      rw [← ccells_app, ← HT.out] at own3
      have HE := hid (show OrW w (some ⟨bc, offc, none⟩) cc n L (k + 1) v2 (ordC cs (os.take (k + 1))) (Y2.setCell ⟨w.heap.size + 1 + 1, 0, none⟩ v2) from ⟨q0, q1, q2, own3, q3, q4⟩)
      obtain ⟨av, cv, rfl⟩ := own_slice2 own2
      clear q0 q1 q2 q3 q4 own3 own2 hgs S1 y2 bl2 sz2
      go_wp2_with fail
      refine NoPanic.normal ?_
      go_wp2
      go_roundw
      case rel => exact ⟨k + 1, _, by omega, by simp, HE.out⟩
      case measure => simp [intOf]; omega
    · have hkm : k = m := by omega
      have hkI : ¬ (k : Int) < (m : Int) := by omega
      obtain ⟨x0, x1, x2, own, bl, sz⟩ := E
      have ht : os.take k = os := by rw [hkm, HM.out, List.take_length]
      rw [ht] at own
      have hkl : k = (ordC cs os).length := by rw [HOL.out, hkm, HM.out]
      rw [hkl] at own
      obtain ⟨a, c, rfl, hC, hblk⟩ := Clz.of_own own (by rw [HOL.out, ← HM.out]; omega) HI.out
      obtain ⟨q, hq⟩ : ∃ q, q = (ordC cs os).length := ⟨_, rfl⟩
      rw [← hq] at x2
      have HQ := hid hq
      have HC := hid hC
      clear own hC ht hkl hkm hq x0
      have u0 := x2.cell 0 rfl; have u1 := x2.cell 1 rfl
      have d0 := x1.cell 0 rfl; have d1 := x1.cell 1 rfl
      have f0 := x1.free 0; have f1 := x1.free 1
      have z1 := x1.set2 (.slice a q c) (.int .i64 L)
      have z2 := below_put2' bl (b := w.heap.size + 1) (by omega) (.slice a q c) (.int .i64 L)
      have z3 := (HC.out.set (p := ⟨w.heap.size + 1, 0, none⟩) (fun ad e => by have := hblk ad e; show ad.block ≠ w.heap.size + 1; omega) (.slice a q c)).set (p := ⟨w.heap.size + 1, 1, none⟩) (fun ad e => by have := hblk ad e; show ad.block ≠ w.heap.size + 1; omega) (.int .i64 L)
      have HZ := hid (And.intro z1 (And.intro z2 z3))
      clear z1 z2 z3 x1 x2 bl sz hblk HC
      go_wp2_with fail
      obtain ⟨z1, z2, z3⟩ := HZ.out
      clear HZ
      generalize World.setCell _ _ _ = VV at *
      have k0 := z1.cell 0 rfl; have k1 := z1.cell 1 rfl
      refine bodyPost_ret (v := .agg #[.slice a q c, .int .i64 L]) ?_ rfl ⟨a, ⟨c, by rw [HQ.out]⟩, z3, z2⟩
      simp [results, Try.results44, go_sem, k0, k1]
end Go.Proofs.Ythgjjlkdekfdbaa
