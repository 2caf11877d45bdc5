import Derived.Test.YtakodllejndfeaaT12
/-! The exact part of a writer. -/
namespace Go.Proofs.Ytakodllejndfeaa
set_option linter.unusedSimpArgs false
set_option linter.unusedVariables false
open Go Go.RowKit

/-- What claims are, if there is no error. -/
def CmQ (S : List Sd) (n : Nat) (E : Int) (a : Option Addr) (k c : Nat) (A : Int) (V : World) : Prop := E = 0 → ∃ g, a = some ⟨g, 0, none⟩ ∧ k = n ∧ c = n ∧ A = 100 * alS S ∧ Bx V g (vrow (clL S n)) 3
theorem CmQ.below {S : List Sd} {n : Nat} {E : Int} {a : Option Addr} {k c : Nat} {A : Int} {V V' : World} (h : CmQ S n E a k c A V) (hb : Below V.heap.size V V') : CmQ S n E a k c A V' := fun h0 => by
  obtain ⟨g, e1, e2, e3, e4, h3⟩ := h h0; exact ⟨g, e1, e2, e3, e4, h3.below hb⟩
theorem bx_ne {V : World} {g b : Nat} {v v' : Array Value} {T T' : TypeId} (h : Bx V g v T) (h' : Bx V b v' T') (hne : T ≠ T') : g ≠ b := by
  rintro rfl
  unfold Bx at h h'
  rw [h] at h'
  injection h' with h'
  injection h' with _ h2
  exact hne h2
theorem below_put2 {B : Nat} {w W : World} (h : Below B w W) {b : Nat} (hp : B ≤ b) (v0 v1 : Value) : Below B w ((W.setCell ⟨b, 0, none⟩ v0).setCell ⟨b, 1, none⟩ v1) := (h.setCell (p := ⟨b, 0, none⟩) hp v0).setCell (p := ⟨b, 1, none⟩) hp v1
theorem Bx.oth2 {W : World} {b g : Nat} {vs : Array Value} {T : TypeId} (h : Bx W b vs T) (hne : b ≠ g) (v0 v1 : Value) : Bx ((W.setCell ⟨g, 0, none⟩ v0).setCell ⟨g, 1, none⟩ v1) b vs T := (h.other (a := ⟨g, 0, none⟩) hne v0).other (a := ⟨g, 1, none⟩) hne v1
theorem CmQ.put {S : List Sd} {n : Nat} {E : Int} {a : Option Addr} {k c : Nat} {A : Int} {V : World} {b : Nat} {v : Array Value} (h : CmQ S n E a k c A V) (xb : Bx V b v 66) (v0 v1 : Value) : CmQ S n E a k c A ((V.setCell ⟨b, 0, none⟩ v0).setCell ⟨b, 1, none⟩ v1) := fun h0 => by
  obtain ⟨g, e1, e2, e3, e4, h3⟩ := h h0; exact ⟨g, e1, e2, e3, e4, h3.oth2 (bx_ne h3 xb (by decide)) _ _⟩


/-- The exact part of a writer: its upper and its lower number. -/
def exN (p : Int) (S : List Sd) (who : Int) : Nat := (p * clS S who).toNat
def exD (S : List Sd) : Nat := (100 * alS S).toNat
def exU (p : Int) (S : List Sd) (O : List Int) (who : Int) : Int := if askE p S O (hasB O who) = 0 then ((exN p S who / Nat.gcd (exN p S who) (exD S) : Nat) : Int) else 0
def exL (p : Int) (S : List Sd) (O : List Int) (who : Int) : Int := if askE p S O (hasB O who) = 0 then ((exD S / Nat.gcd (exN p S who) (exD S) : Nat) : Int) else 0
/-- The world while a royal is asked about. -/
def exS (p : Int) (aS aO : Option Addr) (cS cO : Nat) (S : List Sd) (O : List Int) (w : World) (B : Nat) (V : World) : Prop := B ≤ V.heap.size ∧ Bx V w.heap.size #[.int .i64 p, .slice aS S.length cS, .slice aO O.length cO] 25 ∧ Below w.heap.size w V
theorem exS_below {p : Int} {aS aO : Option Addr} {cS cO : Nat} {S : List Sd} {O : List Int} {w : World} {B : Nat} {V V' : World} (h : exS p aS aO cS cO S O w B V) (hb : Below V.heap.size V V') : exS p aS aO cS cO S O w B V' := ⟨Nat.le_trans h.1 hb.size, h.2.1.below hb, h.2.2.trans (hb.mono h.2.2.size)⟩
theorem exS_put {p : Int} {aS aO : Option Addr} {cS cO : Nat} {S : List Sd} {O : List Int} {w : World} {B : Nat} {V : World} (hB : w.heap.size < B) (h : exS p aS aO cS cO S O w B V) {b : Nat} (hb : B ≤ b) (v0 v1 : Value) : exS p aS aO cS cO S O w B ((V.setCell ⟨b, 0, none⟩ v0).setCell ⟨b, 1, none⟩ v1) :=
  ⟨by simpa [World.setCell] using h.1, h.2.1.oth2 (by omega) v0 v1, below_put2 h.2.2 (by omega) v0 v1⟩

set_option maxRecDepth 100000 in
set_option maxHeartbeats 6000000 in
theorem Exact_any (p : Int) (aS aO : Option Addr) (cS cO : Nat) (S : List Sd) (O : List Int) (who : Int) (w : World) (hX : Ry w aS aO p S O) : Calls Try.prog 22 #[.agg #[.int .i64 p, .slice aS S.length cS, .slice aO O.length cO], .int .i64 who] w fun e w' => e = .returned (.tuple #[.int .i64 (exU p S O who), .int .i64 (exL p S O who), .int .i64 (askE p S O (hasB O who))]) ∧ Below w.heap.size w w' := by
  have hol := hX.ol
  have hwr := fun V => isWriter_any p aS aO cS cO S O who V (by omega)
  have hask := fun (V : World) (hb : Below w.heap.size w V) => ask_any p aS aO cS cO S O (hasB O who) V (hX.below hb (Nat.le_refl _))
  obtain ⟨u1, hu1⟩ : ∃ u, u = exU p S O who := ⟨_, rfl⟩
  obtain ⟨u2, hu2⟩ : ∃ u, u = exL p S O who := ⟨_, rfl⟩
  rw [← hu1, ← hu2]
  unfold exU at hu1
  unfold exL at hu2
  have hok : askE p S O (hasB O who) = 0 → vB p S O = true ∧ hasB O who = true ∧ alS S ≠ 0 := fun h => askE_0 h
  obtain ⟨r, hr⟩ : ∃ r, r = hasB O who := ⟨_, rfl⟩
  rw [← hr] at hwr hask hu1 hu2 hok ⊢
  obtain ⟨E, hE⟩ : ∃ E, E = askE p S O r := ⟨_, rfl⟩
  rw [← hE] at hask hu1 hu2 hok ⊢
  have HR := hid hr
  have HU := hid (And.intro hu1 hu2)
  clear hr hE hu1 hu2
  go_enter Try.func22, Try.ntmps22
  go_upto_region 1 with fail
  obtain ⟨W, hW, hb, hs, x0⟩ := boxes1 w #[.int .i64 p, .slice aS S.length cS, .slice aO O.length cO] 25
  rw [hW]
  clear hW
  have hbd := (Below.refl W.heap.size W).drew
  have S0 : exS p aS aO cS cO S O w W.heap.size W.drew := ⟨hbd.size, x0.below hbd, hb.trans (hbd.mono hb.size)⟩
  have hwW : w.heap.size + 1 ≤ W.heap.size := by omega
  clear hbd x0 hb hs
  obtain ⟨B, hB⟩ : ∃ B, B = W.heap.size := ⟨_, rfl⟩
  rw [← hB] at S0 hwW
  clear hB
  have hwB : w.heap.size < B := by omega
  go_cut [6, 7] (fun v6 v7 wx => ∃ (b : Nat) (a : Option Addr) (k c : Nat) (A : Int), v6 = .int .i64 E ∧ v7 = .pointer (some ⟨b, 0, none⟩) ∧ Bx wx b #[.slice a k c, .int .i64 A] 66 ∧ exS p aS aO cS cO S O w B wx ∧ CmQ S O.length E a k c A wx)
  case first =>
    refine wp_region_head 10 (exS p aS aO cS cO S O w B) (by kernel_rfl) rfl ?_
    generalize W.drew = Y0 at *
    refine HeadAt.take (i := 0) (.agg #[.int .i64 p, .slice aS S.length cS, .slice aO O.length cO]) rfl (by kernel_rfl) (.inl ⟨rfl, fun w' z => ?_⟩) S0 ?_
    · (have z0 := z.2.1.cell 0 rfl; have z1 := z.2.1.cell 1 rfl; have z2 := z.2.1.cell 2 rfl; simp [go_sem, z0, z1, z2])
    (try simp only [Act.put, List.getElem_toArray, List.getElem_cons_succ, List.getElem_cons_zero, List.setIfInBounds_toArray, List.set_cons_succ, List.set_cons_zero])
    refine HeadAt.take (i := 1) (.agg #[.int .i64 p, .slice aS S.length cS, .slice aO O.length cO]) rfl (by kernel_rfl) (.inl ⟨rfl, fun w' z => ?_⟩) S0 ?_
    · (have z0 := z.2.1.cell 0 rfl; have z1 := z.2.1.cell 1 rfl; have z2 := z.2.1.cell 2 rfl; simp [go_sem, z0, z1, z2])
    (try simp only [Act.put, List.getElem_toArray, List.getElem_cons_succ, List.getElem_cons_zero, List.setIfInBounds_toArray, List.set_cons_succ, List.set_cons_zero])
    refine HeadAt.take (i := 2) (.int .i64 who) rfl (by kernel_rfl) (.inl ⟨rfl, fun _ _ => by simp [go_sem]⟩) S0 ?_
    (try simp only [Act.put, List.getElem_toArray, List.getElem_cons_succ, List.getElem_cons_zero, List.setIfInBounds_toArray, List.set_cons_succ, List.set_cons_zero])
    refine HeadAt.two (i := 3) (j := 8) rfl rfl (by kernel_rfl) ?_ ?_
    · skip
      generalize hK : Upto _ _ = K0
      (try simp only [Act.put, List.getElem_toArray, List.getElem_cons_succ, List.getElem_cons_zero, List.setIfInBounds_toArray, List.set_cons_succ, List.set_cons_zero])
      go_wp2_with fail
      refine (hwr _).mono ?_
      rintro e V1 ⟨rfl, hb3⟩
      go_wp2_with fail
      replace S0 := exS_below S0 hb3
      clear hb3
      subst hK
      refine ⟨S0, ?_⟩
      (try simp only [Act.put, List.getElem_toArray, List.getElem_cons_succ, List.getElem_cons_zero, List.setIfInBounds_toArray, List.set_cons_succ, List.set_cons_zero])
      refine HeadAt.two (i := 4) (j := 8) rfl rfl (by kernel_rfl) ?_ ?_
      · skip
        generalize hK : Upto _ _ = K0
        (try simp only [Act.put, List.getElem_toArray, List.getElem_cons_succ, List.getElem_cons_zero, List.setIfInBounds_toArray, List.set_cons_succ, List.set_cons_zero])
        have hak := hask _ S0.2.2
        go_wp2_with fail
        refine hak.mono ?_
        rintro e V2 ⟨C, rfl, ⟨a, k, c, A, rfl, hq0⟩, hb3⟩
        have hq : CmQ S O.length E a k c A V2 := hq0
        clear hq0 hak
        go_wp2_with fail
        replace S0 := exS_below S0 hb3
        clear hb3
        subst hK
        refine ⟨S0, ?_⟩
        (try simp only [Act.put, List.getElem_toArray, List.getElem_cons_succ, List.getElem_cons_zero, List.setIfInBounds_toArray, List.set_cons_succ, List.set_cons_zero])
        refine HeadAt.take (i := 5) (.tuple #[.agg #[.slice a k c, .int .i64 A], .int .i64 E]) rfl (by kernel_rfl) (.inl ⟨rfl, fun _ _ => by simp [go_sem]⟩) S0 ?_
        (try simp only [Act.put, List.getElem_toArray, List.getElem_cons_succ, List.getElem_cons_zero, List.setIfInBounds_toArray, List.set_cons_succ, List.set_cons_zero])
        refine HeadAt.take (i := 6) (.agg #[.slice a k c, .int .i64 A]) rfl (by kernel_rfl) (.inl ⟨rfl, fun _ _ => by simp [go_sem]⟩) S0 ?_
        (try simp only [Act.put, List.getElem_toArray, List.getElem_cons_succ, List.getElem_cons_zero, List.setIfInBounds_toArray, List.set_cons_succ, List.set_cons_zero])
        refine HeadAt.take (i := 7) (.int .i64 E) rfl (by kernel_rfl) (.inl ⟨rfl, fun _ _ => by simp [go_sem]⟩) S0 ?_
        (try simp only [Act.put, List.getElem_toArray, List.getElem_cons_succ, List.getElem_cons_zero, List.setIfInBounds_toArray, List.set_cons_succ, List.set_cons_zero])
        refine HeadAt.one (i := 8) rfl (by kernel_rfl) ?_
        generalize hK : Upto _ _ = K0
        (try simp only [Act.put, List.getElem_toArray, List.getElem_cons_succ, List.getElem_cons_zero, List.setIfInBounds_toArray, List.set_cons_succ, List.set_cons_zero])
        have hba := below_one (w := V2) (.cells #[.slice none 0 0, .int .i64 0] 66)
        have HY := hid (And.intro (exS_below S0 hba) (And.intro (Bx.new V2 #[.slice none 0 0, .int .i64 0] 66) (And.intro S0.1 (hq.below hba))))
        clear hba S0 hq
        go_wp2_with fail
        obtain ⟨S0, xb, hBb, hq⟩ := HY.out
        clear HY
        generalize V2.heap.size = gb at *
        generalize World.alloc _ _ = Vn3 at *
        subst hK
        refine ⟨S0, ?_⟩
        (try simp only [Act.put, List.getElem_toArray, List.getElem_cons_succ, List.getElem_cons_zero, List.setIfInBounds_toArray, List.set_cons_succ, List.set_cons_zero])
        have d0 := xb.cell 0 rfl; have d1 := xb.cell 1 rfl; have f0 := xb.free 0; have f1 := xb.free 1
        have z1 := xb.set2 (.slice a k c) (.int .i64 A)
        have z2 := exS_put hwB S0 hBb (.slice a k c) (.int .i64 A)
        have z3 := hq.put xb (.slice a k c) (.int .i64 A)
        have HZ := hid (And.intro z1 (And.intro z2 z3))
        clear z1 z2 z3 xb S0 hq
        refine HeadAt.one (i := 9) rfl (by kernel_rfl) ?_
        generalize hK : Upto _ _ = K0
        (try simp only [Act.put, List.getElem_toArray, List.getElem_cons_succ, List.getElem_cons_zero, List.setIfInBounds_toArray, List.set_cons_succ, List.set_cons_zero])
        go_wp2_with fail
        subst hK
        clear d0 d1 f0 f1
        refine ⟨HZ.out.2.1, ?_⟩
        refine HeadAt.done (by kernel_rfl) ?_
        (try simp only [Act.put, List.drop_succ_cons, List.drop_zero, List.getElem_toArray, List.getElem_cons_succ, List.getElem_cons_zero])
        go_wp2_with fail
        refine NoPanic.normal ?_
        obtain ⟨z1, S0, hq⟩ := HZ.out
        clear HZ
        generalize World.setCell (World.setCell _ _ _) _ _ = V3 at *
        go_wp2_with fail
        go_meet
        exact ⟨gb, a, k, c, A, rfl, rfl, z1, S0, hq⟩
      · skip
        generalize hK : Upto _ _ = K0
        (try simp only [Act.put, List.getElem_toArray, List.getElem_cons_succ, List.getElem_cons_zero, List.setIfInBounds_toArray, List.set_cons_succ, List.set_cons_zero])
        have hba := below_one (w := V1) (.cells #[.slice none 0 0, .int .i64 0] 66)
        have HY := hid (And.intro (exS_below S0 hba) (And.intro (Bx.new V1 #[.slice none 0 0, .int .i64 0] 66) (And.intro S0.1 True.intro)))
        clear hba S0
        go_wp2_with fail
        obtain ⟨S0, xb, hBb, _⟩ := HY.out
        clear HY
        generalize V1.heap.size = gb at *
        generalize World.alloc _ _ = Vn4 at *
        subst hK
        refine ⟨S0, ?_⟩
        (try simp only [Act.put, List.getElem_toArray, List.getElem_cons_succ, List.getElem_cons_zero, List.setIfInBounds_toArray, List.set_cons_succ, List.set_cons_zero])
        refine HeadAt.one (i := 4) rfl (by kernel_rfl) ?_
        generalize hK : Upto _ _ = K0
        (try simp only [Act.put, List.getElem_toArray, List.getElem_cons_succ, List.getElem_cons_zero, List.setIfInBounds_toArray, List.set_cons_succ, List.set_cons_zero])
        have hak := hask _ S0.2.2
        go_wp2_with fail
        refine hak.mono ?_
        rintro e V5 ⟨C, rfl, ⟨a, k, c, A, rfl, hq0⟩, hb3⟩
        have hq : CmQ S O.length E a k c A V5 := hq0
        clear hq0 hak
        go_wp2_with fail
        replace S0 := exS_below S0 hb3
        replace xb := xb.below hb3
        clear hb3
        subst hK
        refine ⟨S0, ?_⟩
        (try simp only [Act.put, List.getElem_toArray, List.getElem_cons_succ, List.getElem_cons_zero, List.setIfInBounds_toArray, List.set_cons_succ, List.set_cons_zero])
        refine HeadAt.take (i := 5) (.tuple #[.agg #[.slice a k c, .int .i64 A], .int .i64 E]) rfl (by kernel_rfl) (.inl ⟨rfl, fun _ _ => by simp [go_sem]⟩) S0 ?_
        (try simp only [Act.put, List.getElem_toArray, List.getElem_cons_succ, List.getElem_cons_zero, List.setIfInBounds_toArray, List.set_cons_succ, List.set_cons_zero])
        refine HeadAt.take (i := 6) (.agg #[.slice a k c, .int .i64 A]) rfl (by kernel_rfl) (.inl ⟨rfl, fun _ _ => by simp [go_sem]⟩) S0 ?_
        (try simp only [Act.put, List.getElem_toArray, List.getElem_cons_succ, List.getElem_cons_zero, List.setIfInBounds_toArray, List.set_cons_succ, List.set_cons_zero])
        refine HeadAt.take (i := 7) (.int .i64 E) rfl (by kernel_rfl) (.inl ⟨rfl, fun _ _ => by simp [go_sem]⟩) S0 ?_
        (try simp only [Act.put, List.getElem_toArray, List.getElem_cons_succ, List.getElem_cons_zero, List.setIfInBounds_toArray, List.set_cons_succ, List.set_cons_zero])
        have d0 := xb.cell 0 rfl; have d1 := xb.cell 1 rfl; have f0 := xb.free 0; have f1 := xb.free 1
        have z1 := xb.set2 (.slice a k c) (.int .i64 A)
        have z2 := exS_put hwB S0 hBb (.slice a k c) (.int .i64 A)
        have z3 := hq.put xb (.slice a k c) (.int .i64 A)
        have HZ := hid (And.intro z1 (And.intro z2 z3))
        clear z1 z2 z3 xb S0 hq
        refine HeadAt.one (i := 9) rfl (by kernel_rfl) ?_
        generalize hK : Upto _ _ = K0
        (try simp only [Act.put, List.getElem_toArray, List.getElem_cons_succ, List.getElem_cons_zero, List.setIfInBounds_toArray, List.set_cons_succ, List.set_cons_zero])
        go_wp2_with fail
        subst hK
        clear d0 d1 f0 f1
        refine ⟨HZ.out.2.1, ?_⟩
        refine HeadAt.done (by kernel_rfl) ?_
        (try simp only [Act.put, List.drop_succ_cons, List.drop_zero, List.getElem_toArray, List.getElem_cons_succ, List.getElem_cons_zero])
        go_wp2_with fail
        refine NoPanic.normal ?_
        obtain ⟨z1, S0, hq⟩ := HZ.out
        clear HZ
        generalize World.setCell (World.setCell _ _ _) _ _ = V3 at *
        go_wp2_with fail
        go_meet
        exact ⟨gb, a, k, c, A, rfl, rfl, z1, S0, hq⟩
    · skip
      generalize hK : Upto _ _ = K0
      (try simp only [Act.put, List.getElem_toArray, List.getElem_cons_succ, List.getElem_cons_zero, List.setIfInBounds_toArray, List.set_cons_succ, List.set_cons_zero])
      have hba := below_one (w := Y0) (.cells #[.slice none 0 0, .int .i64 0] 66)
      have HY := hid (And.intro (exS_below S0 hba) (And.intro (Bx.new Y0 #[.slice none 0 0, .int .i64 0] 66) (And.intro S0.1 True.intro)))
      clear hba S0
      go_wp2_with fail
      obtain ⟨S0, xb, hBb, _⟩ := HY.out
      clear HY
      generalize Y0.heap.size = gb at *
      generalize World.alloc _ _ = Vn6 at *
      subst hK
      refine ⟨S0, ?_⟩
      (try simp only [Act.put, List.getElem_toArray, List.getElem_cons_succ, List.getElem_cons_zero, List.setIfInBounds_toArray, List.set_cons_succ, List.set_cons_zero])
      refine HeadAt.one (i := 3) rfl (by kernel_rfl) ?_
      generalize hK : Upto _ _ = K0
      (try simp only [Act.put, List.getElem_toArray, List.getElem_cons_succ, List.getElem_cons_zero, List.setIfInBounds_toArray, List.set_cons_succ, List.set_cons_zero])
      go_wp2_with fail
      refine (hwr _).mono ?_
      rintro e V7 ⟨rfl, hb3⟩
      go_wp2_with fail
      replace S0 := exS_below S0 hb3
      replace xb := xb.below hb3
      clear hb3
      subst hK
      refine ⟨S0, ?_⟩
      (try simp only [Act.put, List.getElem_toArray, List.getElem_cons_succ, List.getElem_cons_zero, List.setIfInBounds_toArray, List.set_cons_succ, List.set_cons_zero])
      refine HeadAt.one (i := 4) rfl (by kernel_rfl) ?_
      generalize hK : Upto _ _ = K0
      (try simp only [Act.put, List.getElem_toArray, List.getElem_cons_succ, List.getElem_cons_zero, List.setIfInBounds_toArray, List.set_cons_succ, List.set_cons_zero])
      have hak := hask _ S0.2.2
      go_wp2_with fail
      refine hak.mono ?_
      rintro e V8 ⟨C, rfl, ⟨a, k, c, A, rfl, hq0⟩, hb3⟩
      have hq : CmQ S O.length E a k c A V8 := hq0
      clear hq0 hak
      go_wp2_with fail
      replace S0 := exS_below S0 hb3
      replace xb := xb.below hb3
      clear hb3
      subst hK
      refine ⟨S0, ?_⟩
      (try simp only [Act.put, List.getElem_toArray, List.getElem_cons_succ, List.getElem_cons_zero, List.setIfInBounds_toArray, List.set_cons_succ, List.set_cons_zero])
      refine HeadAt.take (i := 5) (.tuple #[.agg #[.slice a k c, .int .i64 A], .int .i64 E]) rfl (by kernel_rfl) (.inl ⟨rfl, fun _ _ => by simp [go_sem]⟩) S0 ?_
      (try simp only [Act.put, List.getElem_toArray, List.getElem_cons_succ, List.getElem_cons_zero, List.setIfInBounds_toArray, List.set_cons_succ, List.set_cons_zero])
      refine HeadAt.take (i := 6) (.agg #[.slice a k c, .int .i64 A]) rfl (by kernel_rfl) (.inl ⟨rfl, fun _ _ => by simp [go_sem]⟩) S0 ?_
      (try simp only [Act.put, List.getElem_toArray, List.getElem_cons_succ, List.getElem_cons_zero, List.setIfInBounds_toArray, List.set_cons_succ, List.set_cons_zero])
      refine HeadAt.take (i := 7) (.int .i64 E) rfl (by kernel_rfl) (.inl ⟨rfl, fun _ _ => by simp [go_sem]⟩) S0 ?_
      (try simp only [Act.put, List.getElem_toArray, List.getElem_cons_succ, List.getElem_cons_zero, List.setIfInBounds_toArray, List.set_cons_succ, List.set_cons_zero])
      have d0 := xb.cell 0 rfl; have d1 := xb.cell 1 rfl; have f0 := xb.free 0; have f1 := xb.free 1
      have z1 := xb.set2 (.slice a k c) (.int .i64 A)
      have z2 := exS_put hwB S0 hBb (.slice a k c) (.int .i64 A)
      have z3 := hq.put xb (.slice a k c) (.int .i64 A)
      have HZ := hid (And.intro z1 (And.intro z2 z3))
      clear z1 z2 z3 xb S0 hq
      refine HeadAt.one (i := 9) rfl (by kernel_rfl) ?_
      generalize hK : Upto _ _ = K0
      (try simp only [Act.put, List.getElem_toArray, List.getElem_cons_succ, List.getElem_cons_zero, List.setIfInBounds_toArray, List.set_cons_succ, List.set_cons_zero])
      go_wp2_with fail
      subst hK
      clear d0 d1 f0 f1
      refine ⟨HZ.out.2.1, ?_⟩
      refine HeadAt.done (by kernel_rfl) ?_
      (try simp only [Act.put, List.drop_succ_cons, List.drop_zero, List.getElem_toArray, List.getElem_cons_succ, List.getElem_cons_zero])
      go_wp2_with fail
      refine NoPanic.normal ?_
      obtain ⟨z1, S0, hq⟩ := HZ.out
      clear HZ
      generalize World.setCell (World.setCell _ _ _) _ _ = V3 at *
      go_wp2_with fail
      go_meet
      exact ⟨gb, a, k, c, A, rfl, rfl, z1, S0, hq⟩
  case rest =>
    clear S0 hask hwr
    rename_i wc
    obtain ⟨b, a, k, c, A, rfl, rfl, z1, ⟨_, z3, z2⟩, z4⟩ := hcut
    by_cases h0 : E = 0
    · obtain ⟨g, rfl, rfl, rfl, rfl, y⟩ := z4 h0
      obtain ⟨hv, hr1, hal⟩ := hok h0
      have hV := vB_ok hv
      have hal2 := VOk.al hV
      have hQ := qok_of hV hal hV.p0 hV.p9
      have hu := HU.out
      rw [if_pos h0, if_pos h0] at hu
      have hr2 := HR.out
      rw [hr1] at hr2
      obtain ⟨hw0, hw1⟩ := inI_iff.1 hr2.symm
      obtain ⟨i, rfl⟩ := Int.eq_ofNat_of_zero_le hw0
      have hi : i < O.length := by omega
      have hg := hQ.get hi
      have hm := hQ.mul hi
      rw [clL_getD S hi] at hg hm
      obtain ⟨x, hx⟩ : ∃ x, x = clS S (i : Nat) := ⟨_, rfl⟩
      have hN : (exN p S (i : Nat) : Int) = p * x := by unfold exN; rw [← hx, Int.toNat_of_nonneg (by rw [hx]; exact hm.1)]
      have hD : (exD S : Int) = 100 * alS S := by unfold exD; rw [Int.toNat_of_nonneg (by omega)]
      rw [← hx] at hg hm
      generalize exN p S (i : Nat) = N at *
      generalize exD S = D at *
      have hlow := fun V => lowest_any N D V (by omega) (by omega) (by omega)
      rw [hN, hD] at hlow
      rw [← hu.1, ← hu.2] at hlow
      have HU := hid hu
      have ew : IntKind.i64.wrap (p * x) = p * x := IntWalk.i64_in _ (by omega)
      have hiI : (i : Int) < (O.length : Int) := by omega
      subst h0
      clear hu hN hD hx hQ hV hv hr1 hal hr2 hw0 hw1 hi hok z4
      have d0 := z3.ext 0 rfl
      have e0 := z1.ext 0 rfl; have e1 := z1.ext 1 rfl
      have f0 := y.ext i (vrow_at hg)
      clear z1 z3 y hg
      go_upto_region 4 with fail
      refine wp_region_ext_lit (by kernel_rfl) (by kernel_rfl) ?_
      repeat (quiet_step (first | (go_at_call 49; exact quiet_ext (hlow _))))
      refine wpQuiet_nil ?_
      intro _ hw'
      obtain ⟨tt, rfl⟩ := hw'
      have hbt := z2.trans (tt.below.mono z2.size)
      clear d0 e0 e1 f0 hlow z2
      go_wp2
      ((try simp only [Exit.inBlock, Exit.then]); refine bodyPost_ret (results_tmp3 rfl _ _ _) rfl ?_)
      exact ⟨rfl, hbt⟩
    · have hB : (E != 0) = true := by simp [h0]
      have hu := HU.out
      rw [if_neg h0, if_neg h0] at hu
      obtain ⟨rfl, rfl⟩ := hu
      clear HU z4 hok
      go_wp2
      ((try simp only [Exit.inBlock, Exit.then]); refine bodyPost_ret (results_tmp3 rfl _ _ _) rfl ?_)
      exact ⟨rfl, z2⟩
end Go.Proofs.Ytakodllejndfeaa
