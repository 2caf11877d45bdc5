import Derived.Test.YthgjjlkdekfdbaaT12
import Derived.Test.YthgjjlkdekfdbaaT8
/-! A contract with its clauses in an order; the iterator of all orders. -/
namespace Go.Proofs.Ythgjjlkdekfdbaa
set_option linter.unusedSimpArgs false
set_option linter.unusedVariables false
open Go Go.RowKit

theorem own_base {w : World} {base base' size : Nat} {e : TypeId} {v : Value} {n : Nat} {xs : List Value} (h : w.ownsRow base e size v n xs) (hb : base' ≤ base) : w.ownsRow base' e size v n xs := by
  refine ⟨h.1, ?_⟩
  rcases h.2 with h' | ⟨g, cap, cur, h1, h2, h3⟩
  · exact .inl h'
  · exact .inr ⟨g, cap, cur, h1, by omega, h3⟩
theorem own_keep {w w' : World} {base size : Nat} {e : TypeId} {v : Value} {n : Nat} {xs : List Value} {r : Option Nat} (h : w.ownsRow base e size v n xs) (hg : w.grownBy w' r) (hne : ∀ k, v.ownBlock = some k → r ≠ some k) : w'.ownsRow base e size v n xs := by
  refine h.kept hg ?_
  cases hv : v.ownBlock with
  | none => exact .inl rfl
  | some k => exact .inr fun e => hne k hv e.symm
theorem gset (w : World) (a : Addr) (v : Value) : w.grownBy (w.setCell a v) (some a.block) :=
  ⟨rfl, rfl, rfl, by simp [World.setCell], fun k _ hk => Below.heap_setCell _ _ _ _ (fun e => hk (by rw [e]))⟩
theorem Bx.gb {w w' : World} {b : Nat} {vs : Array Value} {T : TypeId} {row : Option Nat} (h : Bx w b vs T) (hg : w.grownBy w' row) (hne : ∀ k, row = some k → b ≠ k) : Bx w' b vs T := by
  have := hg.block b h.lt (fun e => hne b e.symm rfl)
  unfold Bx at *; rw [this]; exact h
theorem Bx.set2' {W : World} {b : Nat} {T : TypeId} {a0 a1 : Value} (h : Bx W b #[a0, a1] T) (v0 v1 : Value) : Bx ((W.setCell ⟨b, 0, none⟩ v0).setCell ⟨b, 1, none⟩ v1) b #[v0, v1] T := h.set2 v0 v1
theorem below_put2' {B : Nat} {w W : World} (h : Below B w W) {b : Nat} (hp : B ≤ b) (v0 v1 : Value) : Below B w ((W.setCell ⟨b, 0, none⟩ v0).setCell ⟨b, 1, none⟩ v1) := (h.setCell (p := ⟨b, 0, none⟩) hp v0).setCell (p := ⟨b, 1, none⟩) hp v1

/-- The clauses in an order. -/
def ordC (cs : List Cl) (os : List Int) : List Cl := os.map fun i => cs.getD i.toNat cl0
theorem ordC_snoc (cs : List Cl) (os : List Int) (i : Int) : ordC cs (os ++ [i]) = ordC cs os ++ [cs.getD i.toNat cl0] := by simp [ordC]
theorem ordC_ok {cs : List Cl} {os : List Int} (h : ∀ x ∈ cs, x.ok) (ho : ∀ x ∈ os, 0 ≤ x ∧ x < (cs.length : Int)) : ∀ x ∈ ordC cs os, x.ok := fun x hx => by
  simp only [ordC, List.mem_map] at hx
  obtain ⟨i, hi, rfl⟩ := hx
  have := ho i hi
  rw [List.getD_eq_getElem?_getD, List.getElem?_eq_getElem (show i.toNat < cs.length by omega)]
  exact h _ (by simp)
theorem info56 : (Try.prog.info? 56).map (fun i => (i.zero, i.size, i.bytes)) = some (some (.agg #[.int .i64 0, .int .i64 0, .int .i64 0, .int .i64 0]), 4, 32) := by kernel_rfl
theorem under22 : Try.prog.underlying 22 = some (.slice 56) := by kernel_rfl

/-- The world while the clauses are laid in their order. -/
structure OrW (w : World) (ac : Option Addr) (cc n : Nat) (L : Int) (p : Nat) (v : Value) (xs : List Cl) (wr : World) : Prop where
  x0 : Bx wr w.heap.size #[.slice ac n cc, .int .i64 L] 24
  x1 : Bx wr (w.heap.size + 1) #[.slice none 0 0, .int .i64 0] 24
  x2 : Bx wr (w.heap.size + 1 + 1) #[v, .int .i64 L] 24
  own : wr.ownsRow (w.heap.size + 3) 56 4 v p (ccells xs)
  bl : Below w.heap.size w wr
  sz : w.heap.size + 3 ≤ wr.heap.size

set_option maxRecDepth 100000 in
set_option maxHeartbeats 6000000 in
theorem ordered_any (ac : Option Addr) (cc : Nat) (cs : List Cl) (L : Int) (ao : Option Addr) (co : Nat) (os : List Int) (hos : os.length ≤ 40) (hr : ∀ x ∈ os, 0 ≤ x ∧ x < (cs.length : Int)) (w : World) (hX : Clz w ac cs) (hO : Ints w ao os) : Calls Try.prog 73 #[.agg #[.slice ac cs.length cc, .int .i64 L], .slice ao os.length co] w fun e w' => ∃ (a : Option Addr) (c : Nat), e = .returned (.agg #[.slice a (ordC cs os).length c, .int .i64 L]) ∧ Clz w' a (ordC cs os) ∧ Below w.heap.size w w' := by
  obtain ⟨j0, hj0, jz0, jz1, jz2⟩ := info_parts info56
  obtain ⟨W, hW, hb, hs, x0, x1⟩ := boxes2 w #[.slice ac cs.length cc, .int .i64 L] 24 #[.slice none 0 0, .int .i64 0] 24
  have c0 := x0.cell 0 rfl; have c1 := x0.cell 1 rfl
  have hbn := below_one (w := W) (.cells #[.slice none 0 0, .int .i64 L] 24)
  have x2 := Bx.new W #[.slice none 0 0, .int .i64 L] 24
  have E0 : OrW w ac cc cs.length L 0 (.slice none 0 0) [] (W.alloc (.cells #[.slice none 0 0, .int .i64 L] 24)) :=
    ⟨x0.below hbn, x1.below hbn, by rw [hs] at x2; exact x2, World.ownsRow_nil _ _ _ _, hb.trans (hbn.mono hb.size), by simp; omega⟩
  clear hbn x2 x0 x1 hb
  have hi64 : ∀ x ∈ ordC cs os, x.i64 := fun x hx => by
    simp only [ordC, List.mem_map] at hx
    obtain ⟨i, hi, rfl⟩ := hx
    have := hr i hi
    rw [List.getD_eq_getElem?_getD, List.getElem?_eq_getElem (show i.toNat < cs.length by omega)]
    exact hX.2.1 _ (by simp)
  have hol : (ordC cs os).length = os.length := by simp [ordC]
  have HI := hid hi64
  have HOL := hid hol
  have hlen := hX.len
  obtain ⟨n, hn⟩ : ∃ n, n = cs.length := ⟨_, rfl⟩
  rw [← hn] at E0 hr hlen c0 hW ⊢
  have HN := hid hn
  obtain ⟨m, hm⟩ : ∃ m, m = os.length := ⟨_, rfl⟩
  rw [← hm] at hos ⊢
  have HM := hid hm
  have HR := hid hr
  clear hn hm hi64 hol hr
  have hmI : (m : Int) ≤ 40 := by omega
  go_enter Try.func73, Try.ntmps73
  go_upto_region 2 with fail
  clear c0 c1
  generalize W.alloc _ = W2 at *
  clear hW hs
  go_wp2
  go_loopw [7, 13] (fun v7 v13 wr => ∃ (k : Nat) (v : Value), k ≤ m ∧ v13 = .int .i64 (k : Int) ∧ OrW w ac cc n L k v (ordC cs (os.take k)) wr) (fun _ v13 _ => m - (intOf v13).toNat)
  case atStart => exact ⟨0, _, Nat.zero_le _, rfl, E0⟩
  case round =>
    clear E0
    obtain ⟨k, v, hk, rfl, E⟩ := hrel
    by_cases hlt : k < m
    · have hOr := hO.below E.bl (Nat.le_refl _)
      obtain ⟨b, off, i, rfl, hbl, hc, _, _, hg, _⟩ := hOr.at (k := k) (by rw [← HM.out]; exact hlt)
      have hir := HR.out i (List.mem_of_getElem? hg.out)
      obtain ⟨j, rfl⟩ := Int.eq_ofNat_of_zero_le hir.1
      have hjn : j < n := by omega
      obtain ⟨bc, offc, x, rfl, hblc, hx4, hxi, hmem, hgx, _, _⟩ := (hX.below E.bl (Nat.le_refl _)).at (k := j) (by rw [← HN.out]; exact hjn)
      have hblw : bc < w.heap.size := by
        obtain ⟨b', off', e, hlt', _⟩ := hX.2.2 j (by rw [← HN.out]; exact hjn)
        cases e; exact hlt'
      have hkI : (k : Int) < (m : Int) := by omega
      have hk0 : (0 : Int) ≤ (k : Int) := by omega
      have hjI : (j : Int) < (n : Int) := by omega
      have hj0' : (0 : Int) ≤ (j : Int) := by omega
      have HT := hid (show ordC cs (os.take (k + 1)) = ordC cs (os.take k) ++ [x] by
        rw [List.take_add_one, hg.out, Option.toList_some, ordC_snoc, Int.toNat_natCast, List.getD_eq_getElem?_getD, hgx.out]; rfl)
      have hk40 : k ≤ 40 := by omega
      clear hOr hg hgx hmem hbl hblc hir
      go_upto_region 5 with fail
      clear hc
      obtain ⟨x0, x1, x2, own, bl, sz⟩ := E
      have hbd := (Below.refl wr.heap.size wr).drew
      have S0 := And.intro (x0.below hbd) (And.intro (x2.below hbd) (show At4 wr.drew bc (offc + j * 4) x from hx4))
      have y1 := x1.below hbd
      have own1 := own_below2 own hbd
      have bl1 := bl.trans (hbd.mono bl.size)
      have sz1 : w.heap.size + 3 ≤ wr.drew.heap.size := sz
      clear x0 x1 x2 own bl sz hbd hx4
      refine wp_region_head 9 (fun w' => Bx w' w.heap.size #[.slice (some ⟨bc, offc, none⟩) n cc, .int .i64 L] 24 ∧ Bx w' (w.heap.size + 1 + 1) #[v, .int .i64 L] 24 ∧ At4 w' bc (offc + j * 4) x) (by kernel_rfl) rfl ?_
      generalize wr.drew = Y0 at *
      refine HeadAt.take (i := 0) (.pointer (some ⟨w.heap.size + 1 + 1, 0, none⟩)) rfl (by kernel_rfl) (.inl ⟨rfl, fun _ _ => by simp [go_sem]⟩) S0 ?_
      (try simp only [Act.put, List.getElem_toArray, List.getElem_cons_succ, List.getElem_cons_zero, List.setIfInBounds_toArray, List.set_cons_succ, List.set_cons_zero])
      refine HeadAt.take (i := 1) (v) rfl (by kernel_rfl) (.inl ⟨rfl, fun w' z => ?_⟩) S0 ?_
      · (have z0 := z.2.1.cell 0 rfl; simp [go_sem, z0])
      refine HeadAt.take (i := 2) (.pointer (some ⟨w.heap.size, 0, none⟩)) rfl (by kernel_rfl) (.inl ⟨rfl, fun _ _ => by simp [go_sem]⟩) S0 ?_
      (try simp only [Act.put, List.getElem_toArray, List.getElem_cons_succ, List.getElem_cons_zero, List.setIfInBounds_toArray, List.set_cons_succ, List.set_cons_zero])
      refine HeadAt.take (i := 3) (.slice (some ⟨bc, offc, none⟩) n cc) rfl (by kernel_rfl) (.inl ⟨rfl, fun w' z => ?_⟩) S0 ?_
      · (have z0 := z.1.cell 0 rfl; simp [go_sem, z0])
      refine HeadAt.take (i := 4) (.int .i64 (j : Int)) rfl (by kernel_rfl) (.inl ⟨rfl, fun _ _ => by simp [go_sem]⟩) S0 ?_
      (try simp only [Act.put, List.getElem_toArray, List.getElem_cons_succ, List.getElem_cons_zero, List.setIfInBounds_toArray, List.set_cons_succ, List.set_cons_zero])
      refine HeadAt.take (i := 5) (.pointer (some ⟨bc, offc + j * 4, none⟩)) rfl (by kernel_rfl) (.inl ⟨rfl, fun w' z => ?_⟩) S0 ?_
      · (simp [go_sem, hjI, hj0'])
      (try simp only [Act.put, List.getElem_toArray, List.getElem_cons_succ, List.getElem_cons_zero, List.setIfInBounds_toArray, List.set_cons_succ, List.set_cons_zero])
      refine HeadAt.take (i := 6) (.agg #[.int .i64 x.k, .int .i64 x.c, .int .i64 x.p, .int .i64 x.m]) rfl (by kernel_rfl) (.inl ⟨rfl, fun w' z => ?_⟩) S0 ?_
      · (obtain ⟨z0, z1, z2, z3⟩ := z.2.2; simp [go_sem, z0, z1, z2, z3])
      (try simp only [Act.put, List.getElem_toArray, List.getElem_cons_succ, List.getElem_cons_zero, List.setIfInBounds_toArray, List.set_cons_succ, List.set_cons_zero])
      refine HeadAt.one (i := 7) rfl (by kernel_rfl) ?_
      generalize hK : Upto _ _ = K0
      (try simp only [Act.put, List.getElem_toArray, List.getElem_cons_succ, List.getElem_cons_zero, List.setIfInBounds_toArray, List.set_cons_succ, List.set_cons_zero])
      have hba := below_one (w := Y0) (.cells #[.int .i64 x.k, .int .i64 x.c, .int .i64 x.p, .int .i64 x.m] 56)
      have hnx := Bx.new Y0 #[.int .i64 x.k, .int .i64 x.c, .int .i64 x.p, .int .i64 x.m] 56
      have S1 := And.intro (S0.1.below hba) (And.intro (S0.2.1.below hba) (S0.2.2.eq (hba.block bc (by omega))))
      have y2 := y1.below hba
      have own2 := own_below2 own1 hba
      have bl2 := bl1.trans (hba.mono bl1.size)
      have sz2 : w.heap.size + 3 ≤ (Y0.alloc (.cells #[.int .i64 x.k, .int .i64 x.c, .int .i64 x.p, .int .i64 x.m] 56)).heap.size := by simp; omega
      have HY := hid (And.intro S1 (And.intro y2 (And.intro own2 (And.intro bl2 (And.intro sz2 hnx)))))
      clear S0 S1 y1 y2 own1 own2 bl1 bl2 sz1 sz2 hba hnx
      go_wp2_with fail
      obtain ⟨S0, y1, own, bl, sz, hnx⟩ := HY.out
      clear HY
      generalize Y0.heap.size = gn at *
      generalize Y0.alloc _ = Y1 at *
      subst hK
      refine ⟨S0, ?_⟩
      (try simp only [Act.put, List.getElem_toArray, List.getElem_cons_succ, List.getElem_cons_zero, List.setIfInBounds_toArray, List.set_cons_succ, List.set_cons_zero])
      refine HeadAt.one (i := 8) rfl (by kernel_rfl) ?_
      generalize hK : Upto _ _ = K0
      (try simp only [Act.put, List.getElem_toArray, List.getElem_cons_succ, List.getElem_cons_zero, List.setIfInBounds_toArray, List.set_cons_succ, List.set_cons_zero])
      have hcl := Cls.of_bx hnx
      have hge := own_ge2 own
      go_wp2_with (at_builtin; refine wpList_app rfl _ _ 22 rfl (w.heap.size + 3) 56 j0 _ 4 32 under22 hj0 jz0 jz1 jz2 rfl (by decide) v k (ccells (ordC cs (os.take k))) rfl own (some ⟨gn, 0, none⟩) 1 1 (ccells [x]) rfl rfl hcl (ccells_one _) (by unfold maxLen; omega) (by omega) (by omega) ?_; intro v2 Y2 own2 hg2)
      have S1 := And.intro (S0.1.gb hg2 (fun q hq => by have := hge q hq; omega)) (And.intro (S0.2.1.gb hg2 (fun q hq => by have := hge q hq; omega)) (S0.2.2.eq (hg2.block bc (by omega) (fun e => by have := hge bc e.symm; omega))))
      have y2 := y1.gb hg2 (fun q hq => by have := hge q hq; omega)
      have bl2 := bl.grown hg2 (by omega) (fun q hq => by have := hge q hq; omega)
      have sz2 : w.heap.size + 3 ≤ Y2.heap.size := Nat.le_trans sz hg2.size
      clear S0 y1 bl sz hge hcl hnx own hg2
      subst hK
      refine ⟨S1, ?_⟩
      (try simp only [Act.put, List.getElem_toArray, List.getElem_cons_succ, List.getElem_cons_zero, List.setIfInBounds_toArray, List.set_cons_succ, List.set_cons_zero])
      refine HeadAt.done (by kernel_rfl) ?_
      (try simp only [Act.put, List.drop_succ_cons, List.drop_zero, List.getElem_toArray, List.getElem_cons_succ, List.getElem_cons_zero])
      have z1 := S1.2.1.cell 0 rfl
      have zf := S1.2.1.free 0
      have hgs : Y2.grownBy (Y2.setCell ⟨w.heap.size + 1 + 1, 0, none⟩ v2) (some (w.heap.size + 1 + 1)) := gset Y2 _ _
      have own3 := own_keep own2 hgs (fun q hq e => by have := own_ge2 own2 q hq; injection e with e; omega)
      have q0 := S1.1.other (a := ⟨w.heap.size + 1 + 1, 0, none⟩) (by show w.heap.size ≠ w.heap.size + 1 + 1; omega) v2
      have q1 := y2.other (a := ⟨w.heap.size + 1 + 1, 0, none⟩) (by show w.heap.size + 1 ≠ w.heap.size + 1 + 1; omega) v2
      have q2 := S1.2.1.put2_0 v2
      have q3 := bl2.setCell (p := ⟨w.heap.size + 1 + 1, 0, none⟩) (by show w.heap.size ≤ w.heap.size + 1 + 1; omega) v2
      have q4 : w.heap.size + 3 ≤ (Y2.setCell ⟨w.heap.size + 1 + 1, 0, none⟩ v2).heap.size := by simpa [World.setCell] using sz2
      rw [← ccells_app, ← HT.out] at own3
      have HE := hid (show OrW w (some ⟨bc, offc, none⟩) cc n L (k + 1) v2 (ordC cs (os.take (k + 1))) (Y2.setCell ⟨w.heap.size + 1 + 1, 0, none⟩ v2) from ⟨q0, q1, q2, own3, q3, q4⟩)
      obtain ⟨av, cv, rfl⟩ := own_slice2 own2
      clear q0 q1 q2 q3 q4 own3 own2 hgs S1 y2 bl2 sz2
      go_wp2_with fail
      refine NoPanic.normal ?_
      go_wp2
      go_roundw
      case rel => exact ⟨k + 1, _, by omega, by simp, HE.out⟩
      case measure => simp [intOf]; omega
    · have hkm : k = m := by omega
      have hkI : ¬ (k : Int) < (m : Int) := by omega
      obtain ⟨x0, x1, x2, own, bl, sz⟩ := E
      have ht : os.take k = os := by rw [hkm, HM.out, List.take_length]
      rw [ht] at own
      have hkl : k = (ordC cs os).length := by rw [HOL.out, hkm, HM.out]
      rw [hkl] at own
      obtain ⟨a, c, rfl, hC, hblk⟩ := Clz.of_own own (by rw [HOL.out, ← HM.out]; omega) HI.out
      obtain ⟨q, hq⟩ : ∃ q, q = (ordC cs os).length := ⟨_, rfl⟩
      rw [← hq] at x2
      have HQ := hid hq
      have HC := hid hC
      clear own hC ht hkl hkm hq x0
      have u0 := x2.cell 0 rfl; have u1 := x2.cell 1 rfl
      have d0 := x1.cell 0 rfl; have d1 := x1.cell 1 rfl
      have f0 := x1.free 0; have f1 := x1.free 1
      have z1 := x1.set2 (.slice a q c) (.int .i64 L)
      have z2 := below_put2' bl (b := w.heap.size + 1) (by omega) (.slice a q c) (.int .i64 L)
      have z3 := (HC.out.set (p := ⟨w.heap.size + 1, 0, none⟩) (fun ad e => by have := hblk ad e; show ad.block ≠ w.heap.size + 1; omega) (.slice a q c)).set (p := ⟨w.heap.size + 1, 1, none⟩) (fun ad e => by have := hblk ad e; show ad.block ≠ w.heap.size + 1; omega) (.int .i64 L)
      have HZ := hid (And.intro z1 (And.intro z2 z3))
      clear z1 z2 z3 x1 x2 bl sz hblk HC
      go_wp2_with fail
      obtain ⟨z1, z2, z3⟩ := HZ.out
      clear HZ
      generalize World.setCell _ _ _ = VV at *
      have k0 := z1.cell 0 rfl; have k1 := z1.cell 1 rfl
      refine bodyPost_ret (v := .agg #[.slice a q c, .int .i64 L]) ?_ rfl ⟨a, ⟨c, by rw [HQ.out]⟩, z3, z2⟩
      simp [results, Try.results73, go_sem, k0, k1]
end Go.Proofs.Ythgjjlkdekfdbaa
