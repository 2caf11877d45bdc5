import Derived.Test.YtakodllejndfeaaT14
/-! The least pool, and the odd one. -/
namespace Go.Proofs.Ytakodllejndfeaa
set_option linter.unusedSimpArgs false
set_option linter.unusedVariables false
open Go Go.RowKit

/-- Of which pools a writer has a share of so many cents. -/
def leQ (S : List Sd) (n : Nat) (who cents : Int) (P : Int) : Bool := decide (cents ≤ shV P (clL S n) (100 * alS S) n who)
def odQ (S : List Sd) (n : Nat) (who : Int) (P : Int) : Bool := decide (shV P (clL S n) (100 * alS S) n who < shV (P - 1) (clL S n) (100 * alS S) n who)
def leF (S : List Sd) (n : Nat) (who cents : Int) : Option Int := firstF (leQ S n who cents) 10000 0
def odF (p : Int) (S : List Sd) (n : Nat) (who : Int) : Option Int := firstF (odQ S n who) p.toNat 1
def leA (p : Int) (S : List Sd) (O : List Int) (who cents : Int) : Int := askE p S O (hasB O who && inI 0 cents 9999)
def leV (p : Int) (S : List Sd) (O : List Int) (who cents : Int) : Int := if leA p S O who cents = 0 then fpV (leF S O.length who cents) else 0
def leE (p : Int) (S : List Sd) (O : List Int) (who cents : Int) : Int := if leA p S O who cents = 0 then fpE (leF S O.length who cents) else leA p S O who cents
def odV (p : Int) (S : List Sd) (O : List Int) (who : Int) : Int := if askE p S O (hasB O who) = 0 then fpV (odF p S O.length who) else 0
def odE (p : Int) (S : List Sd) (O : List Int) (who : Int) : Int := if askE p S O (hasB O who) = 0 then fpE (odF p S O.length who) else askE p S O (hasB O who)

/-- The world while a royal is asked about a writer. -/
def odS (p : Int) (aS aO : Option Addr) (cS cO : Nat) (S : List Sd) (O : List Int) (who : Int) (w : World) (B : Nat) (V : World) : Prop := B ≤ V.heap.size ∧ Bx V w.heap.size #[.int .i64 p, .slice aS S.length cS, .slice aO O.length cO] 25 ∧ Bx V (w.heap.size + 1) #[.int .i64 who] 3 ∧ Below w.heap.size w V
theorem odS_below {p : Int} {aS aO : Option Addr} {cS cO : Nat} {S : List Sd} {O : List Int} {who : Int} {w : World} {B : Nat} {V V' : World} (h : odS p aS aO cS cO S O who w B V) (hb : Below V.heap.size V V') : odS p aS aO cS cO S O who w B V' := ⟨Nat.le_trans h.1 hb.size, h.2.1.below hb, h.2.2.1.below hb, h.2.2.2.trans (hb.mono h.2.2.2.size)⟩
theorem odS_put {p : Int} {aS aO : Option Addr} {cS cO : Nat} {S : List Sd} {O : List Int} {who : Int} {w : World} {B : Nat} {V : World} (hB : w.heap.size + 1 < B) (h : odS p aS aO cS cO S O who w B V) {b : Nat} (hb : B ≤ b) (v0 v1 : Value) : odS p aS aO cS cO S O who w B ((V.setCell ⟨b, 0, none⟩ v0).setCell ⟨b, 1, none⟩ v1) :=
  ⟨by simpa [World.setCell] using h.1, h.2.1.oth2 (by omega) v0 v1, h.2.2.1.oth2 (by omega) v0 v1, below_put2 h.2.2.2 (by omega) v0 v1⟩
def leS (p : Int) (aS aO : Option Addr) (cS cO : Nat) (S : List Sd) (O : List Int) (who cents : Int) (w : World) (B : Nat) (V : World) : Prop := B ≤ V.heap.size ∧ Bx V w.heap.size #[.int .i64 p, .slice aS S.length cS, .slice aO O.length cO] 25 ∧ Bx V (w.heap.size + 1) #[.int .i64 who] 3 ∧ Bx V (w.heap.size + 2) #[.int .i64 cents] 3 ∧ Below w.heap.size w V
theorem leS_below {p : Int} {aS aO : Option Addr} {cS cO : Nat} {S : List Sd} {O : List Int} {who cents : Int} {w : World} {B : Nat} {V V' : World} (h : leS p aS aO cS cO S O who cents w B V) (hb : Below V.heap.size V V') : leS p aS aO cS cO S O who cents w B V' := ⟨Nat.le_trans h.1 hb.size, h.2.1.below hb, h.2.2.1.below hb, h.2.2.2.1.below hb, h.2.2.2.2.trans (hb.mono h.2.2.2.2.size)⟩
theorem leS_put {p : Int} {aS aO : Option Addr} {cS cO : Nat} {S : List Sd} {O : List Int} {who cents : Int} {w : World} {B : Nat} {V : World} (hB : w.heap.size + 2 < B) (h : leS p aS aO cS cO S O who cents w B V) {b : Nat} (hb : B ≤ b) (v0 v1 : Value) : leS p aS aO cS cO S O who cents w B ((V.setCell ⟨b, 0, none⟩ v0).setCell ⟨b, 1, none⟩ v1) :=
  ⟨by simpa [World.setCell] using h.1, h.2.1.oth2 (by omega) v0 v1, h.2.2.1.oth2 (by omega) v0 v1, h.2.2.2.1.oth2 (by omega) v0 v1, below_put2 h.2.2.2.2 (by omega) v0 v1⟩


set_option maxRecDepth 100000 in
set_option maxHeartbeats 8000000 in
theorem Odd_any (p : Int) (aS aO : Option Addr) (cS cO : Nat) (S : List Sd) (O : List Int) (who : Int) (w : World) (hX : Ry w aS aO p S O) : Calls Try.prog 31 #[.agg #[.int .i64 p, .slice aS S.length cS, .slice aO O.length cO], .int .i64 who] w fun e w' => e = .returned (.tuple #[.int .i64 (odV p S O who), .int .i64 (odE p S O who)]) ∧ Below w.heap.size w w' := by
  have hol := hX.ol
  have hwr := fun V => isWriter_any p aS aO cS cO S O who V (by omega)
  have hask := fun (V : World) (hb : Below w.heap.size w V) => ask_any p aS aO cS cO S O (hasB O who) V (hX.below hb (Nat.le_refl _))
  obtain ⟨u1, hu1⟩ : ∃ u, u = odV p S O who := ⟨_, rfl⟩
  obtain ⟨u2, hu2⟩ : ∃ u, u = odE p S O who := ⟨_, rfl⟩
  rw [← hu1, ← hu2]
  unfold odV at hu1
  unfold odE at hu2
  have hok : askE p S O (hasB O who) = 0 → vB p S O = true ∧ (hasB O who) = true ∧ alS S ≠ 0 := fun h => askE_0 h
  obtain ⟨r, hr⟩ : ∃ r, r = hasB O who := ⟨_, rfl⟩
  rw [← hr] at hwr hask hu1 hu2 hok
  obtain ⟨E, hE⟩ : ∃ E, E = askE p S O (r) := ⟨_, rfl⟩
  rw [← hE] at hask hu1 hu2 hok
  have HR := hid hr
  have HU := hid (And.intro hu1 hu2)
  have hE0 : E ≠ 0 → u1 = 0 ∧ u2 = E := fun h => by rw [if_neg h] at hu1 hu2; exact ⟨hu1, hu2⟩
  have hE1 : E = 0 → u1 = fpV (odF p S O.length who) ∧ u2 = fpE (odF p S O.length who) := fun h => by rw [if_pos h] at hu1 hu2; exact ⟨hu1, hu2⟩
  clear hr hE hu1 hu2 HU 
  go_enter Try.func31, Try.ntmps31
  go_upto_region 1 with fail
  obtain ⟨W, hW, hb, hs, x0, x1⟩ := boxes2 w #[.int .i64 p, .slice aS S.length cS, .slice aO O.length cO] 25 #[.int .i64 who] 3
  rw [hW]
  clear hW
  have hbd := (Below.refl W.heap.size W).drew
  have S0 : odS p aS aO cS cO S O who w W.heap.size W.drew := ⟨hbd.size, x0.below hbd, x1.below hbd, hb.trans (hbd.mono hb.size)⟩
  have hwB0 : w.heap.size + 1 < W.heap.size := by omega
  clear hbd x0 x1 hb hs
  obtain ⟨B, hB⟩ : ∃ B, B = W.heap.size := ⟨_, rfl⟩
  rw [← hB] at S0 hwB0
  have hwB := hwB0
  clear hB hwB0
  go_cut [6, 7] (fun vb ve wx => ∃ (b : Nat) (a : Option Addr) (k c : Nat) (A : Int), ve = .int .i64 E ∧ vb = .pointer (some ⟨b, 0, none⟩) ∧ Bx wx b #[.slice a k c, .int .i64 A] 66 ∧ odS p aS aO cS cO S O who w B wx ∧ CmQ S O.length E a k c A wx)
  case first =>
    refine wp_region_head 10 (odS p aS aO cS cO S O who w B) (by kernel_rfl) rfl ?_
    generalize W.drew = Y0 at *
    refine HeadAt.take (i := 0) (.agg #[.int .i64 p, .slice aS S.length cS, .slice aO O.length cO]) rfl (by kernel_rfl) (.inl ⟨rfl, fun w' z => ?_⟩) S0 ?_
    · (have z0 := z.2.1.cell 0 rfl; have z1 := z.2.1.cell 1 rfl; have z2 := z.2.1.cell 2 rfl; simp [go_sem, z0, z1, z2])
    (try simp only [Act.put, List.getElem_toArray, List.getElem_cons_succ, List.getElem_cons_zero, List.setIfInBounds_toArray, List.set_cons_succ, List.set_cons_zero])
    refine HeadAt.take (i := 1) (.agg #[.int .i64 p, .slice aS S.length cS, .slice aO O.length cO]) rfl (by kernel_rfl) (.inl ⟨rfl, fun w' z => ?_⟩) S0 ?_
    · (have z0 := z.2.1.cell 0 rfl; have z1 := z.2.1.cell 1 rfl; have z2 := z.2.1.cell 2 rfl; simp [go_sem, z0, z1, z2])
    (try simp only [Act.put, List.getElem_toArray, List.getElem_cons_succ, List.getElem_cons_zero, List.setIfInBounds_toArray, List.set_cons_succ, List.set_cons_zero])
    refine HeadAt.take (i := 2) (.int .i64 who) rfl (by kernel_rfl) (.inl ⟨rfl, fun w' z => ?_⟩) S0 ?_
    · (have z0 := z.2.2.1.cell 0 rfl; simp [go_sem, z0])
    (try simp only [Act.put, List.getElem_toArray, List.getElem_cons_succ, List.getElem_cons_zero, List.setIfInBounds_toArray, List.set_cons_succ, List.set_cons_zero])
    refine HeadAt.two (i := 3) (j := 8) rfl rfl (by kernel_rfl) ?_ ?_
    · skip
      generalize hK : Upto _ _ = K0
      (try simp only [Act.put, List.getElem_toArray, List.getElem_cons_succ, List.getElem_cons_zero, List.setIfInBounds_toArray, List.set_cons_succ, List.set_cons_zero])
      go_wp2_with fail
      refine (hwr _).mono ?_
      rintro e V1 ⟨rfl, hb3⟩
      go_wp2_with fail
      replace S0 := odS_below S0 hb3
      clear hb3
      subst hK
      refine ⟨S0, ?_⟩
      (try simp only [Act.put, List.getElem_toArray, List.getElem_cons_succ, List.getElem_cons_zero, List.setIfInBounds_toArray, List.set_cons_succ, List.set_cons_zero])
      refine HeadAt.two (i := 4) (j := 8) rfl rfl (by kernel_rfl) ?_ ?_
      · skip
        generalize hK : Upto _ _ = K0
        (try simp only [Act.put, List.getElem_toArray, List.getElem_cons_succ, List.getElem_cons_zero, List.setIfInBounds_toArray, List.set_cons_succ, List.set_cons_zero])
        have hak := hask _ S0.2.2.2
        go_wp2_with fail
        refine hak.mono ?_
        rintro e V2 ⟨C, rfl, ⟨a, k, c, A, rfl, hq0⟩, hb3⟩
        have hq : CmQ S O.length E a k c A V2 := hq0
        clear hq0 hak
        go_wp2_with fail
        replace S0 := odS_below S0 hb3
        clear hb3
        subst hK
        refine ⟨S0, ?_⟩
        (try simp only [Act.put, List.getElem_toArray, List.getElem_cons_succ, List.getElem_cons_zero, List.setIfInBounds_toArray, List.set_cons_succ, List.set_cons_zero])
        refine HeadAt.take (i := 5) (.tuple #[.agg #[.slice a k c, .int .i64 A], .int .i64 E]) rfl (by kernel_rfl) (.inl ⟨rfl, fun _ _ => by simp [go_sem]⟩) S0 ?_
        (try simp only [Act.put, List.getElem_toArray, List.getElem_cons_succ, List.getElem_cons_zero, List.setIfInBounds_toArray, List.set_cons_succ, List.set_cons_zero])
        refine HeadAt.take (i := 6) (.agg #[.slice a k c, .int .i64 A]) rfl (by kernel_rfl) (.inl ⟨rfl, fun _ _ => by simp [go_sem]⟩) S0 ?_
        (try simp only [Act.put, List.getElem_toArray, List.getElem_cons_succ, List.getElem_cons_zero, List.setIfInBounds_toArray, List.set_cons_succ, List.set_cons_zero])
        refine HeadAt.take (i := 7) (.int .i64 E) rfl (by kernel_rfl) (.inl ⟨rfl, fun _ _ => by simp [go_sem]⟩) S0 ?_
        (try simp only [Act.put, List.getElem_toArray, List.getElem_cons_succ, List.getElem_cons_zero, List.setIfInBounds_toArray, List.set_cons_succ, List.set_cons_zero])
        refine HeadAt.one (i := 8) rfl (by kernel_rfl) ?_
        generalize hK : Upto _ _ = K0
        (try simp only [Act.put, List.getElem_toArray, List.getElem_cons_succ, List.getElem_cons_zero, List.setIfInBounds_toArray, List.set_cons_succ, List.set_cons_zero])
        have hba := below_one (w := V2) (.cells #[.slice none 0 0, .int .i64 0] 66)
        have HY := hid (And.intro (odS_below S0 hba) (And.intro (Bx.new V2 #[.slice none 0 0, .int .i64 0] 66) (And.intro S0.1 (hq.below hba))))
        clear hba S0 hq
        go_wp2_with fail
        obtain ⟨S0, xb, hBb, hq⟩ := HY.out
        clear HY
        generalize V2.heap.size = gb at *
        generalize World.alloc _ _ = Vn3 at *
        subst hK
        refine ⟨S0, ?_⟩
        (try simp only [Act.put, List.getElem_toArray, List.getElem_cons_succ, List.getElem_cons_zero, List.setIfInBounds_toArray, List.set_cons_succ, List.set_cons_zero])
        have d0 := xb.cell 0 rfl; have d1 := xb.cell 1 rfl; have f0 := xb.free 0; have f1 := xb.free 1
        have z1 := xb.set2 (.slice a k c) (.int .i64 A)
        have z2 := odS_put hwB S0 hBb (.slice a k c) (.int .i64 A)
        have z3 := hq.put xb (.slice a k c) (.int .i64 A)
        have HZ := hid (And.intro z1 (And.intro z2 z3))
        clear z1 z2 z3 xb S0 hq
        refine HeadAt.one (i := 9) rfl (by kernel_rfl) ?_
        generalize hK : Upto _ _ = K0
        (try simp only [Act.put, List.getElem_toArray, List.getElem_cons_succ, List.getElem_cons_zero, List.setIfInBounds_toArray, List.set_cons_succ, List.set_cons_zero])
        go_wp2_with fail
        subst hK
        clear d0 d1 f0 f1
        refine ⟨HZ.out.2.1, ?_⟩
        refine HeadAt.done (by kernel_rfl) ?_
        (try simp only [Act.put, List.drop_succ_cons, List.drop_zero, List.getElem_toArray, List.getElem_cons_succ, List.getElem_cons_zero])
        go_wp2_with fail
        refine NoPanic.normal ?_
        obtain ⟨z1, S0, hq⟩ := HZ.out
        clear HZ
        generalize World.setCell (World.setCell _ _ _) _ _ = V3 at *
        go_wp2_with fail
        go_meet
        exact ⟨gb, a, k, c, A, rfl, rfl, z1, S0, hq⟩
      · skip
        generalize hK : Upto _ _ = K0
        (try simp only [Act.put, List.getElem_toArray, List.getElem_cons_succ, List.getElem_cons_zero, List.setIfInBounds_toArray, List.set_cons_succ, List.set_cons_zero])
        have hba := below_one (w := V1) (.cells #[.slice none 0 0, .int .i64 0] 66)
        have HY := hid (And.intro (odS_below S0 hba) (And.intro (Bx.new V1 #[.slice none 0 0, .int .i64 0] 66) (And.intro S0.1 True.intro)))
        clear hba S0
        go_wp2_with fail
        obtain ⟨S0, xb, hBb, _⟩ := HY.out
        clear HY
        generalize V1.heap.size = gb at *
        generalize World.alloc _ _ = Vn4 at *
        subst hK
        refine ⟨S0, ?_⟩
        (try simp only [Act.put, List.getElem_toArray, List.getElem_cons_succ, List.getElem_cons_zero, List.setIfInBounds_toArray, List.set_cons_succ, List.set_cons_zero])
        refine HeadAt.one (i := 4) rfl (by kernel_rfl) ?_
        generalize hK : Upto _ _ = K0
        (try simp only [Act.put, List.getElem_toArray, List.getElem_cons_succ, List.getElem_cons_zero, List.setIfInBounds_toArray, List.set_cons_succ, List.set_cons_zero])
        have hak := hask _ S0.2.2.2
        go_wp2_with fail
        refine hak.mono ?_
        rintro e V5 ⟨C, rfl, ⟨a, k, c, A, rfl, hq0⟩, hb3⟩
        have hq : CmQ S O.length E a k c A V5 := hq0
        clear hq0 hak
        go_wp2_with fail
        replace S0 := odS_below S0 hb3
        replace xb := xb.below hb3
        clear hb3
        subst hK
        refine ⟨S0, ?_⟩
        (try simp only [Act.put, List.getElem_toArray, List.getElem_cons_succ, List.getElem_cons_zero, List.setIfInBounds_toArray, List.set_cons_succ, List.set_cons_zero])
        refine HeadAt.take (i := 5) (.tuple #[.agg #[.slice a k c, .int .i64 A], .int .i64 E]) rfl (by kernel_rfl) (.inl ⟨rfl, fun _ _ => by simp [go_sem]⟩) S0 ?_
        (try simp only [Act.put, List.getElem_toArray, List.getElem_cons_succ, List.getElem_cons_zero, List.setIfInBounds_toArray, List.set_cons_succ, List.set_cons_zero])
        refine HeadAt.take (i := 6) (.agg #[.slice a k c, .int .i64 A]) rfl (by kernel_rfl) (.inl ⟨rfl, fun _ _ => by simp [go_sem]⟩) S0 ?_
        (try simp only [Act.put, List.getElem_toArray, List.getElem_cons_succ, List.getElem_cons_zero, List.setIfInBounds_toArray, List.set_cons_succ, List.set_cons_zero])
        refine HeadAt.take (i := 7) (.int .i64 E) rfl (by kernel_rfl) (.inl ⟨rfl, fun _ _ => by simp [go_sem]⟩) S0 ?_
        (try simp only [Act.put, List.getElem_toArray, List.getElem_cons_succ, List.getElem_cons_zero, List.setIfInBounds_toArray, List.set_cons_succ, List.set_cons_zero])
        have d0 := xb.cell 0 rfl; have d1 := xb.cell 1 rfl; have f0 := xb.free 0; have f1 := xb.free 1
        have z1 := xb.set2 (.slice a k c) (.int .i64 A)
        have z2 := odS_put hwB S0 hBb (.slice a k c) (.int .i64 A)
        have z3 := hq.put xb (.slice a k c) (.int .i64 A)
        have HZ := hid (And.intro z1 (And.intro z2 z3))
        clear z1 z2 z3 xb S0 hq
        refine HeadAt.one (i := 9) rfl (by kernel_rfl) ?_
        generalize hK : Upto _ _ = K0
        (try simp only [Act.put, List.getElem_toArray, List.getElem_cons_succ, List.getElem_cons_zero, List.setIfInBounds_toArray, List.set_cons_succ, List.set_cons_zero])
        go_wp2_with fail
        subst hK
        clear d0 d1 f0 f1
        refine ⟨HZ.out.2.1, ?_⟩
        refine HeadAt.done (by kernel_rfl) ?_
        (try simp only [Act.put, List.drop_succ_cons, List.drop_zero, List.getElem_toArray, List.getElem_cons_succ, List.getElem_cons_zero])
        go_wp2_with fail
        refine NoPanic.normal ?_
        obtain ⟨z1, S0, hq⟩ := HZ.out
        clear HZ
        generalize World.setCell (World.setCell _ _ _) _ _ = V3 at *
        go_wp2_with fail
        go_meet
        exact ⟨gb, a, k, c, A, rfl, rfl, z1, S0, hq⟩
    · skip
      generalize hK : Upto _ _ = K0
      (try simp only [Act.put, List.getElem_toArray, List.getElem_cons_succ, List.getElem_cons_zero, List.setIfInBounds_toArray, List.set_cons_succ, List.set_cons_zero])
      have hba := below_one (w := Y0) (.cells #[.slice none 0 0, .int .i64 0] 66)
      have HY := hid (And.intro (odS_below S0 hba) (And.intro (Bx.new Y0 #[.slice none 0 0, .int .i64 0] 66) (And.intro S0.1 True.intro)))
      clear hba S0
      go_wp2_with fail
      obtain ⟨S0, xb, hBb, _⟩ := HY.out
      clear HY
      generalize Y0.heap.size = gb at *
      generalize World.alloc _ _ = Vn6 at *
      subst hK
      refine ⟨S0, ?_⟩
      (try simp only [Act.put, List.getElem_toArray, List.getElem_cons_succ, List.getElem_cons_zero, List.setIfInBounds_toArray, List.set_cons_succ, List.set_cons_zero])
      refine HeadAt.one (i := 3) rfl (by kernel_rfl) ?_
      generalize hK : Upto _ _ = K0
      (try simp only [Act.put, List.getElem_toArray, List.getElem_cons_succ, List.getElem_cons_zero, List.setIfInBounds_toArray, List.set_cons_succ, List.set_cons_zero])
      go_wp2_with fail
      refine (hwr _).mono ?_
      rintro e V7 ⟨rfl, hb3⟩
      go_wp2_with fail
      replace S0 := odS_below S0 hb3
      replace xb := xb.below hb3
      clear hb3
      subst hK
      refine ⟨S0, ?_⟩
      (try simp only [Act.put, List.getElem_toArray, List.getElem_cons_succ, List.getElem_cons_zero, List.setIfInBounds_toArray, List.set_cons_succ, List.set_cons_zero])
      refine HeadAt.one (i := 4) rfl (by kernel_rfl) ?_
      generalize hK : Upto _ _ = K0
      (try simp only [Act.put, List.getElem_toArray, List.getElem_cons_succ, List.getElem_cons_zero, List.setIfInBounds_toArray, List.set_cons_succ, List.set_cons_zero])
      have hak := hask _ S0.2.2.2
      go_wp2_with fail
      refine hak.mono ?_
      rintro e V8 ⟨C, rfl, ⟨a, k, c, A, rfl, hq0⟩, hb3⟩
      have hq : CmQ S O.length E a k c A V8 := hq0
      clear hq0 hak
      go_wp2_with fail
      replace S0 := odS_below S0 hb3
      replace xb := xb.below hb3
      clear hb3
      subst hK
      refine ⟨S0, ?_⟩
      (try simp only [Act.put, List.getElem_toArray, List.getElem_cons_succ, List.getElem_cons_zero, List.setIfInBounds_toArray, List.set_cons_succ, List.set_cons_zero])
      refine HeadAt.take (i := 5) (.tuple #[.agg #[.slice a k c, .int .i64 A], .int .i64 E]) rfl (by kernel_rfl) (.inl ⟨rfl, fun _ _ => by simp [go_sem]⟩) S0 ?_
      (try simp only [Act.put, List.getElem_toArray, List.getElem_cons_succ, List.getElem_cons_zero, List.setIfInBounds_toArray, List.set_cons_succ, List.set_cons_zero])
      refine HeadAt.take (i := 6) (.agg #[.slice a k c, .int .i64 A]) rfl (by kernel_rfl) (.inl ⟨rfl, fun _ _ => by simp [go_sem]⟩) S0 ?_
      (try simp only [Act.put, List.getElem_toArray, List.getElem_cons_succ, List.getElem_cons_zero, List.setIfInBounds_toArray, List.set_cons_succ, List.set_cons_zero])
      refine HeadAt.take (i := 7) (.int .i64 E) rfl (by kernel_rfl) (.inl ⟨rfl, fun _ _ => by simp [go_sem]⟩) S0 ?_
      (try simp only [Act.put, List.getElem_toArray, List.getElem_cons_succ, List.getElem_cons_zero, List.setIfInBounds_toArray, List.set_cons_succ, List.set_cons_zero])
      have d0 := xb.cell 0 rfl; have d1 := xb.cell 1 rfl; have f0 := xb.free 0; have f1 := xb.free 1
      have z1 := xb.set2 (.slice a k c) (.int .i64 A)
      have z2 := odS_put hwB S0 hBb (.slice a k c) (.int .i64 A)
      have z3 := hq.put xb (.slice a k c) (.int .i64 A)
      have HZ := hid (And.intro z1 (And.intro z2 z3))
      clear z1 z2 z3 xb S0 hq
      refine HeadAt.one (i := 9) rfl (by kernel_rfl) ?_
      generalize hK : Upto _ _ = K0
      (try simp only [Act.put, List.getElem_toArray, List.getElem_cons_succ, List.getElem_cons_zero, List.setIfInBounds_toArray, List.set_cons_succ, List.set_cons_zero])
      go_wp2_with fail
      subst hK
      clear d0 d1 f0 f1
      refine ⟨HZ.out.2.1, ?_⟩
      refine HeadAt.done (by kernel_rfl) ?_
      (try simp only [Act.put, List.drop_succ_cons, List.drop_zero, List.getElem_toArray, List.getElem_cons_succ, List.getElem_cons_zero])
      go_wp2_with fail
      refine NoPanic.normal ?_
      obtain ⟨z1, S0, hq⟩ := HZ.out
      clear HZ
      generalize World.setCell (World.setCell _ _ _) _ _ = V3 at *
      go_wp2_with fail
      go_meet
      exact ⟨gb, a, k, c, A, rfl, rfl, z1, S0, hq⟩
  case rest =>
    clear S0 hask hwr 
    rename_i wc
    obtain ⟨b, a, k, c, A, rfl, rfl, z1, ⟨hs1, z3, z5, z2⟩, z4⟩ := hcut
    by_cases h0 : E = 0
    · obtain ⟨g, rfl, rfl, rfl, rfl, y⟩ := z4 h0
      obtain ⟨hv, hr1, hal⟩ := hok h0
      have hV := vB_ok hv
      have hr2 := HR.out
      rw [hr1] at hr2
      obtain ⟨hw0, hw1⟩ := inI_iff.1 hr2.symm
      obtain ⟨i, rfl⟩ := Int.eq_ofNat_of_zero_le hw0
      have hi : i < O.length := by omega
      have hu := hE1 h0
      have hqk := fun (P : Int) h1 h2 => qok_of (P := P) hV hal h1 h2
      have hp0 := hV.p0; have hp9 := hV.p9
      have hcl := fun (V : World) (hb : Below wc.heap.size wc V) (P : Int) (h1 : 1 ≤ P) (h2 : P ≤ p) => cl57_any g O.length b (w.heap.size + 1) P (clL S O.length) (100 * alS S) i (hqk P (by omega) (by omega)) (hqk (P - 1) (by omega) (by omega)) hi V (z1.below hb) (z5.below hb) (y.below hb)
      obtain ⟨k0, hk0⟩ : ∃ k0 : Nat, k0 = p.toNat := ⟨_, rfl⟩
      have hfp := firstPool57_any 1 p k0 b (w.heap.size + 1) (odQ S O.length i) wc ⟨by omega, by omega⟩ (by omega) (by omega) (fun V P hb h1 h2 => hcl V hb P h1 h2)
      have hu3 : odF p S O.length i = firstF (odQ S O.length i) k0 1 := by rw [hk0]; rfl
      rw [hu3] at hu
      generalize firstF (odQ S O.length i) k0 1 = F at *
      have c0 := z3.cell 0 rfl
      obtain ⟨rfl, rfl⟩ := hu
      subst h0
      clear hE0 hE1 hok hk0 hu3 hcl hqk hV hv hal hr1 hr2 hw0 hw1 z1 z3 z5 y z4
      go_wp2_with fail
      refine hfp.mono ?_
      rintro e V9 ⟨rfl, hb3⟩
      have hbt := z2.trans (hb3.mono z2.size)
      clear hb3 hfp z2
      go_wp2
      go_ret2
      exact ⟨rfl, hbt⟩
    · have hB : (E != 0) = true := by simp [h0]
      obtain ⟨rfl, rfl⟩ := hE0 h0
      clear z4 hok hE0 hE1
      go_wp2
      go_ret2
      exact ⟨rfl, z2⟩

set_option maxRecDepth 100000 in
set_option maxHeartbeats 8000000 in
theorem Least_any (p : Int) (aS aO : Option Addr) (cS cO : Nat) (S : List Sd) (O : List Int) (who cents : Int) (w : World) (hX : Ry w aS aO p S O) : Calls Try.prog 30 #[.agg #[.int .i64 p, .slice aS S.length cS, .slice aO O.length cO], .int .i64 who, .int .i64 cents] w fun e w' => e = .returned (.tuple #[.int .i64 (leV p S O who cents), .int .i64 (leE p S O who cents)]) ∧ Below w.heap.size w w' := by
  have hol := hX.ol
  have hwr := fun V => isWriter_any p aS aO cS cO S O who V (by omega)
  have hask := fun (V : World) (hb : Below w.heap.size w V) => ask_any p aS aO cS cO S O (hasB O who && inI 0 cents 9999) V (hX.below hb (Nat.le_refl _))
  have hpo := fun V => isPool_any cents V
  obtain ⟨u1, hu1⟩ : ∃ u, u = leV p S O who cents := ⟨_, rfl⟩
  obtain ⟨u2, hu2⟩ : ∃ u, u = leE p S O who cents := ⟨_, rfl⟩
  rw [← hu1, ← hu2]
  unfold leV leA at hu1
  unfold leE leA at hu2
  have hok : askE p S O (hasB O who && inI 0 cents 9999) = 0 → vB p S O = true ∧ (hasB O who && inI 0 cents 9999) = true ∧ alS S ≠ 0 := fun h => askE_0 h
  obtain ⟨r, hr⟩ : ∃ r, r = hasB O who := ⟨_, rfl⟩
  rw [← hr] at hwr hask hu1 hu2 hok
  obtain ⟨q, hq⟩ : ∃ q, q = inI 0 cents 9999 := ⟨_, rfl⟩
  rw [← hq] at hpo hask hu1 hu2 hok
  obtain ⟨E, hE⟩ : ∃ E, E = askE p S O (r && q) := ⟨_, rfl⟩
  rw [← hE] at hask hu1 hu2 hok
  have HR := hid hr
  have HU := hid (And.intro hu1 hu2)
  have hE0 : E ≠ 0 → u1 = 0 ∧ u2 = E := fun h => by rw [if_neg h] at hu1 hu2; exact ⟨hu1, hu2⟩
  have hE1 : E = 0 → u1 = fpV (leF S O.length who cents) ∧ u2 = fpE (leF S O.length who cents) := fun h => by rw [if_pos h] at hu1 hu2; exact ⟨hu1, hu2⟩
  clear hr hE hu1 hu2 HU hq
  go_enter Try.func30, Try.ntmps30
  go_upto_region 1 with fail
  obtain ⟨W, hW, hb, hs, x0, x1, x2⟩ := boxes3 w #[.int .i64 p, .slice aS S.length cS, .slice aO O.length cO] 25 #[.int .i64 who] 3 #[.int .i64 cents] 3
  rw [hW]
  clear hW
  have hbd := (Below.refl W.heap.size W).drew
  have S0 : leS p aS aO cS cO S O who cents w W.heap.size W.drew := ⟨hbd.size, x0.below hbd, x1.below hbd, x2.below hbd, hb.trans (hbd.mono hb.size)⟩
  have hwB0 : w.heap.size + 2 < W.heap.size := by omega
  clear hbd x0 x1 x2 hb hs
  obtain ⟨B, hB⟩ : ∃ B, B = W.heap.size := ⟨_, rfl⟩
  rw [← hB] at S0 hwB0
  have hwB := hwB0
  clear hB hwB0
  go_cut [8, 9] (fun vb ve wx => ∃ (b : Nat) (a : Option Addr) (k c : Nat) (A : Int), ve = .int .i64 E ∧ vb = .pointer (some ⟨b, 0, none⟩) ∧ Bx wx b #[.slice a k c, .int .i64 A] 66 ∧ leS p aS aO cS cO S O who cents w B wx ∧ CmQ S O.length E a k c A wx)
  case first =>
    cases r
    · skip
      simp only [Bool.false_and] at hask
      refine wp_region_head 14 (leS p aS aO cS cO S O who cents w B) (by kernel_rfl) rfl ?_
      generalize W.drew = Y0 at *
      refine HeadAt.take (i := 0) (.agg #[.int .i64 p, .slice aS S.length cS, .slice aO O.length cO]) rfl (by kernel_rfl) (.inl ⟨rfl, fun w' z => ?_⟩) S0 ?_
      · (have z0 := z.2.1.cell 0 rfl; have z1 := z.2.1.cell 1 rfl; have z2 := z.2.1.cell 2 rfl; simp [go_sem, z0, z1, z2])
      (try simp only [Act.put, List.getElem_toArray, List.getElem_cons_succ, List.getElem_cons_zero, List.setIfInBounds_toArray, List.set_cons_succ, List.set_cons_zero])
      refine HeadAt.take (i := 1) (.agg #[.int .i64 p, .slice aS S.length cS, .slice aO O.length cO]) rfl (by kernel_rfl) (.inl ⟨rfl, fun w' z => ?_⟩) S0 ?_
      · (have z0 := z.2.1.cell 0 rfl; have z1 := z.2.1.cell 1 rfl; have z2 := z.2.1.cell 2 rfl; simp [go_sem, z0, z1, z2])
      (try simp only [Act.put, List.getElem_toArray, List.getElem_cons_succ, List.getElem_cons_zero, List.setIfInBounds_toArray, List.set_cons_succ, List.set_cons_zero])
      refine HeadAt.take (i := 2) (.int .i64 who) rfl (by kernel_rfl) (.inl ⟨rfl, fun w' z => ?_⟩) S0 ?_
      · (have z0 := z.2.2.1.cell 0 rfl; simp [go_sem, z0])
      (try simp only [Act.put, List.getElem_toArray, List.getElem_cons_succ, List.getElem_cons_zero, List.setIfInBounds_toArray, List.set_cons_succ, List.set_cons_zero])
      refine HeadAt.two (i := 3) (j := 12) rfl rfl (by kernel_rfl) ?_ ?_
      · skip
        generalize hK : Upto _ _ = K0
        (try simp only [Act.put, List.getElem_toArray, List.getElem_cons_succ, List.getElem_cons_zero, List.setIfInBounds_toArray, List.set_cons_succ, List.set_cons_zero])
        go_wp2_with fail
        refine (hwr _).mono ?_
        rintro e V9 ⟨rfl, hb3⟩
        go_wp2_with fail
        replace S0 := leS_below S0 hb3
        clear hb3
        subst hK
        refine ⟨S0, ?_⟩
        (try simp only [Act.put, List.getElem_toArray, List.getElem_cons_succ, List.getElem_cons_zero, List.setIfInBounds_toArray, List.set_cons_succ, List.set_cons_zero])
        refine HeadAt.take (i := 4) (.bool false) rfl (by kernel_rfl) (.inl ⟨rfl, fun _ _ => by simp [go_sem]⟩) S0 ?_
        (try simp only [Act.put, List.getElem_toArray, List.getElem_cons_succ, List.getElem_cons_zero, List.setIfInBounds_toArray, List.set_cons_succ, List.set_cons_zero])
        refine HeadAt.take (i := 5) undef rfl (by kernel_rfl) (.inr ⟨by kernel_rfl, rfl⟩) S0 ?_
        (try simp only [Act.put, List.getElem_toArray, List.getElem_cons_succ, List.getElem_cons_zero, List.setIfInBounds_toArray, List.set_cons_succ, List.set_cons_zero])
        refine HeadAt.take (i := 6) undef rfl (by kernel_rfl) (.inr ⟨by kernel_rfl, rfl⟩) S0 ?_
        (try simp only [Act.put, List.getElem_toArray, List.getElem_cons_succ, List.getElem_cons_zero, List.setIfInBounds_toArray, List.set_cons_succ, List.set_cons_zero])
        refine HeadAt.take (i := 7) (.bool false) rfl (by kernel_rfl) (.inl ⟨rfl, fun _ _ => by simp [go_sem]⟩) S0 ?_
        (try simp only [Act.put, List.getElem_toArray, List.getElem_cons_succ, List.getElem_cons_zero, List.setIfInBounds_toArray, List.set_cons_succ, List.set_cons_zero])
        refine HeadAt.two (i := 8) (j := 12) rfl rfl (by kernel_rfl) ?_ ?_
        · skip
          generalize hK : Upto _ _ = K0
          (try simp only [Act.put, List.getElem_toArray, List.getElem_cons_succ, List.getElem_cons_zero, List.setIfInBounds_toArray, List.set_cons_succ, List.set_cons_zero])
          have hak := hask _ S0.2.2.2.2
          go_wp2_with fail
          refine hak.mono ?_
          rintro e V10 ⟨C, rfl, ⟨a, k, c, A, rfl, hq0⟩, hb3⟩
          have hq : CmQ S O.length E a k c A V10 := hq0
          clear hq0 hak
          go_wp2_with fail
          replace S0 := leS_below S0 hb3
          clear hb3
          subst hK
          refine ⟨S0, ?_⟩
          (try simp only [Act.put, List.getElem_toArray, List.getElem_cons_succ, List.getElem_cons_zero, List.setIfInBounds_toArray, List.set_cons_succ, List.set_cons_zero])
          refine HeadAt.take (i := 9) (.tuple #[.agg #[.slice a k c, .int .i64 A], .int .i64 E]) rfl (by kernel_rfl) (.inl ⟨rfl, fun _ _ => by simp [go_sem]⟩) S0 ?_
          (try simp only [Act.put, List.getElem_toArray, List.getElem_cons_succ, List.getElem_cons_zero, List.setIfInBounds_toArray, List.set_cons_succ, List.set_cons_zero])
          refine HeadAt.take (i := 10) (.agg #[.slice a k c, .int .i64 A]) rfl (by kernel_rfl) (.inl ⟨rfl, fun _ _ => by simp [go_sem]⟩) S0 ?_
          (try simp only [Act.put, List.getElem_toArray, List.getElem_cons_succ, List.getElem_cons_zero, List.setIfInBounds_toArray, List.set_cons_succ, List.set_cons_zero])
          refine HeadAt.take (i := 11) (.int .i64 E) rfl (by kernel_rfl) (.inl ⟨rfl, fun _ _ => by simp [go_sem]⟩) S0 ?_
          (try simp only [Act.put, List.getElem_toArray, List.getElem_cons_succ, List.getElem_cons_zero, List.setIfInBounds_toArray, List.set_cons_succ, List.set_cons_zero])
          refine HeadAt.one (i := 12) rfl (by kernel_rfl) ?_
          generalize hK : Upto _ _ = K0
          (try simp only [Act.put, List.getElem_toArray, List.getElem_cons_succ, List.getElem_cons_zero, List.setIfInBounds_toArray, List.set_cons_succ, List.set_cons_zero])
          have hba := below_one (w := V10) (.cells #[.slice none 0 0, .int .i64 0] 66)
          have HY := hid (And.intro (leS_below S0 hba) (And.intro (Bx.new V10 #[.slice none 0 0, .int .i64 0] 66) (And.intro S0.1 (hq.below hba))))
          clear hba S0 hq
          go_wp2_with fail
          obtain ⟨S0, xb, hBb, hq⟩ := HY.out
          clear HY
          generalize V10.heap.size = gb at *
          generalize World.alloc _ _ = Vn11 at *
          subst hK
          refine ⟨S0, ?_⟩
          (try simp only [Act.put, List.getElem_toArray, List.getElem_cons_succ, List.getElem_cons_zero, List.setIfInBounds_toArray, List.set_cons_succ, List.set_cons_zero])
          have d0 := xb.cell 0 rfl; have d1 := xb.cell 1 rfl; have f0 := xb.free 0; have f1 := xb.free 1
          have z1 := xb.set2 (.slice a k c) (.int .i64 A)
          have z2 := leS_put hwB S0 hBb (.slice a k c) (.int .i64 A)
          have z3 := hq.put xb (.slice a k c) (.int .i64 A)
          have HZ := hid (And.intro z1 (And.intro z2 z3))
          clear z1 z2 z3 xb S0 hq
          refine HeadAt.one (i := 13) rfl (by kernel_rfl) ?_
          generalize hK : Upto _ _ = K0
          (try simp only [Act.put, List.getElem_toArray, List.getElem_cons_succ, List.getElem_cons_zero, List.setIfInBounds_toArray, List.set_cons_succ, List.set_cons_zero])
          go_wp2_with fail
          subst hK
          clear d0 d1 f0 f1
          refine ⟨HZ.out.2.1, ?_⟩
          refine HeadAt.done (by kernel_rfl) ?_
          (try simp only [Act.put, List.drop_succ_cons, List.drop_zero, List.getElem_toArray, List.getElem_cons_succ, List.getElem_cons_zero])
          go_wp2_with fail
          refine NoPanic.normal ?_
          obtain ⟨z1, S0, hq⟩ := HZ.out
          clear HZ
          generalize World.setCell (World.setCell _ _ _) _ _ = V3 at *
          go_wp2_with fail
          go_meet
          exact ⟨gb, a, k, c, A, rfl, rfl, z1, S0, hq⟩
        · skip
          generalize hK : Upto _ _ = K0
          (try simp only [Act.put, List.getElem_toArray, List.getElem_cons_succ, List.getElem_cons_zero, List.setIfInBounds_toArray, List.set_cons_succ, List.set_cons_zero])
          have hba := below_one (w := V9) (.cells #[.slice none 0 0, .int .i64 0] 66)
          have HY := hid (And.intro (leS_below S0 hba) (And.intro (Bx.new V9 #[.slice none 0 0, .int .i64 0] 66) (And.intro S0.1 True.intro)))
          clear hba S0
          go_wp2_with fail
          obtain ⟨S0, xb, hBb, _⟩ := HY.out
          clear HY
          generalize V9.heap.size = gb at *
          generalize World.alloc _ _ = Vn12 at *
          subst hK
          refine ⟨S0, ?_⟩
          (try simp only [Act.put, List.getElem_toArray, List.getElem_cons_succ, List.getElem_cons_zero, List.setIfInBounds_toArray, List.set_cons_succ, List.set_cons_zero])
          refine HeadAt.one (i := 8) rfl (by kernel_rfl) ?_
          generalize hK : Upto _ _ = K0
          (try simp only [Act.put, List.getElem_toArray, List.getElem_cons_succ, List.getElem_cons_zero, List.setIfInBounds_toArray, List.set_cons_succ, List.set_cons_zero])
          have hak := hask _ S0.2.2.2.2
          go_wp2_with fail
          refine hak.mono ?_
          rintro e V13 ⟨C, rfl, ⟨a, k, c, A, rfl, hq0⟩, hb3⟩
          have hq : CmQ S O.length E a k c A V13 := hq0
          clear hq0 hak
          go_wp2_with fail
          replace S0 := leS_below S0 hb3
          replace xb := xb.below hb3
          clear hb3
          subst hK
          refine ⟨S0, ?_⟩
          (try simp only [Act.put, List.getElem_toArray, List.getElem_cons_succ, List.getElem_cons_zero, List.setIfInBounds_toArray, List.set_cons_succ, List.set_cons_zero])
          refine HeadAt.take (i := 9) (.tuple #[.agg #[.slice a k c, .int .i64 A], .int .i64 E]) rfl (by kernel_rfl) (.inl ⟨rfl, fun _ _ => by simp [go_sem]⟩) S0 ?_
          (try simp only [Act.put, List.getElem_toArray, List.getElem_cons_succ, List.getElem_cons_zero, List.setIfInBounds_toArray, List.set_cons_succ, List.set_cons_zero])
          refine HeadAt.take (i := 10) (.agg #[.slice a k c, .int .i64 A]) rfl (by kernel_rfl) (.inl ⟨rfl, fun _ _ => by simp [go_sem]⟩) S0 ?_
          (try simp only [Act.put, List.getElem_toArray, List.getElem_cons_succ, List.getElem_cons_zero, List.setIfInBounds_toArray, List.set_cons_succ, List.set_cons_zero])
          refine HeadAt.take (i := 11) (.int .i64 E) rfl (by kernel_rfl) (.inl ⟨rfl, fun _ _ => by simp [go_sem]⟩) S0 ?_
          (try simp only [Act.put, List.getElem_toArray, List.getElem_cons_succ, List.getElem_cons_zero, List.setIfInBounds_toArray, List.set_cons_succ, List.set_cons_zero])
          have d0 := xb.cell 0 rfl; have d1 := xb.cell 1 rfl; have f0 := xb.free 0; have f1 := xb.free 1
          have z1 := xb.set2 (.slice a k c) (.int .i64 A)
          have z2 := leS_put hwB S0 hBb (.slice a k c) (.int .i64 A)
          have z3 := hq.put xb (.slice a k c) (.int .i64 A)
          have HZ := hid (And.intro z1 (And.intro z2 z3))
          clear z1 z2 z3 xb S0 hq
          refine HeadAt.one (i := 13) rfl (by kernel_rfl) ?_
          generalize hK : Upto _ _ = K0
          (try simp only [Act.put, List.getElem_toArray, List.getElem_cons_succ, List.getElem_cons_zero, List.setIfInBounds_toArray, List.set_cons_succ, List.set_cons_zero])
          go_wp2_with fail
          subst hK
          clear d0 d1 f0 f1
          refine ⟨HZ.out.2.1, ?_⟩
          refine HeadAt.done (by kernel_rfl) ?_
          (try simp only [Act.put, List.drop_succ_cons, List.drop_zero, List.getElem_toArray, List.getElem_cons_succ, List.getElem_cons_zero])
          go_wp2_with fail
          refine NoPanic.normal ?_
          obtain ⟨z1, S0, hq⟩ := HZ.out
          clear HZ
          generalize World.setCell (World.setCell _ _ _) _ _ = V3 at *
          go_wp2_with fail
          go_meet
          exact ⟨gb, a, k, c, A, rfl, rfl, z1, S0, hq⟩
      · skip
        generalize hK : Upto _ _ = K0
        (try simp only [Act.put, List.getElem_toArray, List.getElem_cons_succ, List.getElem_cons_zero, List.setIfInBounds_toArray, List.set_cons_succ, List.set_cons_zero])
        have hba := below_one (w := Y0) (.cells #[.slice none 0 0, .int .i64 0] 66)
        have HY := hid (And.intro (leS_below S0 hba) (And.intro (Bx.new Y0 #[.slice none 0 0, .int .i64 0] 66) (And.intro S0.1 True.intro)))
        clear hba S0
        go_wp2_with fail
        obtain ⟨S0, xb, hBb, _⟩ := HY.out
        clear HY
        generalize Y0.heap.size = gb at *
        generalize World.alloc _ _ = Vn14 at *
        subst hK
        refine ⟨S0, ?_⟩
        (try simp only [Act.put, List.getElem_toArray, List.getElem_cons_succ, List.getElem_cons_zero, List.setIfInBounds_toArray, List.set_cons_succ, List.set_cons_zero])
        refine HeadAt.one (i := 3) rfl (by kernel_rfl) ?_
        generalize hK : Upto _ _ = K0
        (try simp only [Act.put, List.getElem_toArray, List.getElem_cons_succ, List.getElem_cons_zero, List.setIfInBounds_toArray, List.set_cons_succ, List.set_cons_zero])
        go_wp2_with fail
        refine (hwr _).mono ?_
        rintro e V15 ⟨rfl, hb3⟩
        go_wp2_with fail
        replace S0 := leS_below S0 hb3
        replace xb := xb.below hb3
        clear hb3
        subst hK
        refine ⟨S0, ?_⟩
        (try simp only [Act.put, List.getElem_toArray, List.getElem_cons_succ, List.getElem_cons_zero, List.setIfInBounds_toArray, List.set_cons_succ, List.set_cons_zero])
        refine HeadAt.take (i := 4) (.bool false) rfl (by kernel_rfl) (.inl ⟨rfl, fun _ _ => by simp [go_sem]⟩) S0 ?_
        (try simp only [Act.put, List.getElem_toArray, List.getElem_cons_succ, List.getElem_cons_zero, List.setIfInBounds_toArray, List.set_cons_succ, List.set_cons_zero])
        refine HeadAt.take (i := 5) undef rfl (by kernel_rfl) (.inr ⟨by kernel_rfl, rfl⟩) S0 ?_
        (try simp only [Act.put, List.getElem_toArray, List.getElem_cons_succ, List.getElem_cons_zero, List.setIfInBounds_toArray, List.set_cons_succ, List.set_cons_zero])
        refine HeadAt.take (i := 6) undef rfl (by kernel_rfl) (.inr ⟨by kernel_rfl, rfl⟩) S0 ?_
        (try simp only [Act.put, List.getElem_toArray, List.getElem_cons_succ, List.getElem_cons_zero, List.setIfInBounds_toArray, List.set_cons_succ, List.set_cons_zero])
        refine HeadAt.take (i := 7) (.bool false) rfl (by kernel_rfl) (.inl ⟨rfl, fun _ _ => by simp [go_sem]⟩) S0 ?_
        (try simp only [Act.put, List.getElem_toArray, List.getElem_cons_succ, List.getElem_cons_zero, List.setIfInBounds_toArray, List.set_cons_succ, List.set_cons_zero])
        refine HeadAt.one (i := 8) rfl (by kernel_rfl) ?_
        generalize hK : Upto _ _ = K0
        (try simp only [Act.put, List.getElem_toArray, List.getElem_cons_succ, List.getElem_cons_zero, List.setIfInBounds_toArray, List.set_cons_succ, List.set_cons_zero])
        have hak := hask _ S0.2.2.2.2
        go_wp2_with fail
        refine hak.mono ?_
        rintro e V16 ⟨C, rfl, ⟨a, k, c, A, rfl, hq0⟩, hb3⟩
        have hq : CmQ S O.length E a k c A V16 := hq0
        clear hq0 hak
        go_wp2_with fail
        replace S0 := leS_below S0 hb3
        replace xb := xb.below hb3
        clear hb3
        subst hK
        refine ⟨S0, ?_⟩
        (try simp only [Act.put, List.getElem_toArray, List.getElem_cons_succ, List.getElem_cons_zero, List.setIfInBounds_toArray, List.set_cons_succ, List.set_cons_zero])
        refine HeadAt.take (i := 9) (.tuple #[.agg #[.slice a k c, .int .i64 A], .int .i64 E]) rfl (by kernel_rfl) (.inl ⟨rfl, fun _ _ => by simp [go_sem]⟩) S0 ?_
        (try simp only [Act.put, List.getElem_toArray, List.getElem_cons_succ, List.getElem_cons_zero, List.setIfInBounds_toArray, List.set_cons_succ, List.set_cons_zero])
        refine HeadAt.take (i := 10) (.agg #[.slice a k c, .int .i64 A]) rfl (by kernel_rfl) (.inl ⟨rfl, fun _ _ => by simp [go_sem]⟩) S0 ?_
        (try simp only [Act.put, List.getElem_toArray, List.getElem_cons_succ, List.getElem_cons_zero, List.setIfInBounds_toArray, List.set_cons_succ, List.set_cons_zero])
        refine HeadAt.take (i := 11) (.int .i64 E) rfl (by kernel_rfl) (.inl ⟨rfl, fun _ _ => by simp [go_sem]⟩) S0 ?_
        (try simp only [Act.put, List.getElem_toArray, List.getElem_cons_succ, List.getElem_cons_zero, List.setIfInBounds_toArray, List.set_cons_succ, List.set_cons_zero])
        have d0 := xb.cell 0 rfl; have d1 := xb.cell 1 rfl; have f0 := xb.free 0; have f1 := xb.free 1
        have z1 := xb.set2 (.slice a k c) (.int .i64 A)
        have z2 := leS_put hwB S0 hBb (.slice a k c) (.int .i64 A)
        have z3 := hq.put xb (.slice a k c) (.int .i64 A)
        have HZ := hid (And.intro z1 (And.intro z2 z3))
        clear z1 z2 z3 xb S0 hq
        refine HeadAt.one (i := 13) rfl (by kernel_rfl) ?_
        generalize hK : Upto _ _ = K0
        (try simp only [Act.put, List.getElem_toArray, List.getElem_cons_succ, List.getElem_cons_zero, List.setIfInBounds_toArray, List.set_cons_succ, List.set_cons_zero])
        go_wp2_with fail
        subst hK
        clear d0 d1 f0 f1
        refine ⟨HZ.out.2.1, ?_⟩
        refine HeadAt.done (by kernel_rfl) ?_
        (try simp only [Act.put, List.drop_succ_cons, List.drop_zero, List.getElem_toArray, List.getElem_cons_succ, List.getElem_cons_zero])
        go_wp2_with fail
        refine NoPanic.normal ?_
        obtain ⟨z1, S0, hq⟩ := HZ.out
        clear HZ
        generalize World.setCell (World.setCell _ _ _) _ _ = V3 at *
        go_wp2_with fail
        go_meet
        exact ⟨gb, a, k, c, A, rfl, rfl, z1, S0, hq⟩
    · skip
      simp only [Bool.true_and] at hask
      refine wp_region_head 14 (leS p aS aO cS cO S O who cents w B) (by kernel_rfl) rfl ?_
      generalize W.drew = Y0 at *
      refine HeadAt.take (i := 0) (.agg #[.int .i64 p, .slice aS S.length cS, .slice aO O.length cO]) rfl (by kernel_rfl) (.inl ⟨rfl, fun w' z => ?_⟩) S0 ?_
      · (have z0 := z.2.1.cell 0 rfl; have z1 := z.2.1.cell 1 rfl; have z2 := z.2.1.cell 2 rfl; simp [go_sem, z0, z1, z2])
      (try simp only [Act.put, List.getElem_toArray, List.getElem_cons_succ, List.getElem_cons_zero, List.setIfInBounds_toArray, List.set_cons_succ, List.set_cons_zero])
      refine HeadAt.take (i := 1) (.agg #[.int .i64 p, .slice aS S.length cS, .slice aO O.length cO]) rfl (by kernel_rfl) (.inl ⟨rfl, fun w' z => ?_⟩) S0 ?_
      · (have z0 := z.2.1.cell 0 rfl; have z1 := z.2.1.cell 1 rfl; have z2 := z.2.1.cell 2 rfl; simp [go_sem, z0, z1, z2])
      (try simp only [Act.put, List.getElem_toArray, List.getElem_cons_succ, List.getElem_cons_zero, List.setIfInBounds_toArray, List.set_cons_succ, List.set_cons_zero])
      refine HeadAt.take (i := 2) (.int .i64 who) rfl (by kernel_rfl) (.inl ⟨rfl, fun w' z => ?_⟩) S0 ?_
      · (have z0 := z.2.2.1.cell 0 rfl; simp [go_sem, z0])
      (try simp only [Act.put, List.getElem_toArray, List.getElem_cons_succ, List.getElem_cons_zero, List.setIfInBounds_toArray, List.set_cons_succ, List.set_cons_zero])
      refine HeadAt.two (i := 3) (j := 12) rfl rfl (by kernel_rfl) ?_ ?_
      · skip
        generalize hK : Upto _ _ = K0
        (try simp only [Act.put, List.getElem_toArray, List.getElem_cons_succ, List.getElem_cons_zero, List.setIfInBounds_toArray, List.set_cons_succ, List.set_cons_zero])
        go_wp2_with fail
        refine (hwr _).mono ?_
        rintro e V17 ⟨rfl, hb3⟩
        go_wp2_with fail
        replace S0 := leS_below S0 hb3
        clear hb3
        subst hK
        refine ⟨S0, ?_⟩
        (try simp only [Act.put, List.getElem_toArray, List.getElem_cons_succ, List.getElem_cons_zero, List.setIfInBounds_toArray, List.set_cons_succ, List.set_cons_zero])
        refine HeadAt.take (i := 4) (.bool true) rfl (by kernel_rfl) (.inl ⟨rfl, fun _ _ => by simp [go_sem]⟩) S0 ?_
        (try simp only [Act.put, List.getElem_toArray, List.getElem_cons_succ, List.getElem_cons_zero, List.setIfInBounds_toArray, List.set_cons_succ, List.set_cons_zero])
        refine HeadAt.take (i := 5) (.int .i64 cents) rfl (by kernel_rfl) (.inl ⟨rfl, fun w' z => ?_⟩) S0 ?_
        · (have z0 := z.2.2.2.1.cell 0 rfl; simp [go_sem, z0])
        (try simp only [Act.put, List.getElem_toArray, List.getElem_cons_succ, List.getElem_cons_zero, List.setIfInBounds_toArray, List.set_cons_succ, List.set_cons_zero])
        refine HeadAt.two (i := 6) (j := 12) rfl rfl (by kernel_rfl) ?_ ?_
        · skip
          generalize hK : Upto _ _ = K0
          (try simp only [Act.put, List.getElem_toArray, List.getElem_cons_succ, List.getElem_cons_zero, List.setIfInBounds_toArray, List.set_cons_succ, List.set_cons_zero])
          go_wp2_with fail
          refine (hpo _).mono ?_
          rintro e V18 ⟨rfl, rfl⟩
          go_wp2_with fail
          subst hK
          refine ⟨S0, ?_⟩
          (try simp only [Act.put, List.getElem_toArray, List.getElem_cons_succ, List.getElem_cons_zero, List.setIfInBounds_toArray, List.set_cons_succ, List.set_cons_zero])
          refine HeadAt.take (i := 7) (.bool q) rfl (by kernel_rfl) (.inl ⟨rfl, fun w' z => ?_⟩) S0 ?_
          · (cases q <;> simp [go_sem])
          (try simp only [Act.put, List.getElem_toArray, List.getElem_cons_succ, List.getElem_cons_zero, List.setIfInBounds_toArray, List.set_cons_succ, List.set_cons_zero])
          refine HeadAt.two (i := 8) (j := 12) rfl rfl (by kernel_rfl) ?_ ?_
          · skip
            generalize hK : Upto _ _ = K0
            (try simp only [Act.put, List.getElem_toArray, List.getElem_cons_succ, List.getElem_cons_zero, List.setIfInBounds_toArray, List.set_cons_succ, List.set_cons_zero])
            have hak := hask _ S0.2.2.2.2
            go_wp2_with fail
            refine hak.mono ?_
            rintro e V19 ⟨C, rfl, ⟨a, k, c, A, rfl, hq0⟩, hb3⟩
            have hq : CmQ S O.length E a k c A V19 := hq0
            clear hq0 hak
            go_wp2_with fail
            replace S0 := leS_below S0 hb3
            clear hb3
            subst hK
            refine ⟨S0, ?_⟩
            (try simp only [Act.put, List.getElem_toArray, List.getElem_cons_succ, List.getElem_cons_zero, List.setIfInBounds_toArray, List.set_cons_succ, List.set_cons_zero])
            refine HeadAt.take (i := 9) (.tuple #[.agg #[.slice a k c, .int .i64 A], .int .i64 E]) rfl (by kernel_rfl) (.inl ⟨rfl, fun _ _ => by simp [go_sem]⟩) S0 ?_
            (try simp only [Act.put, List.getElem_toArray, List.getElem_cons_succ, List.getElem_cons_zero, List.setIfInBounds_toArray, List.set_cons_succ, List.set_cons_zero])
            refine HeadAt.take (i := 10) (.agg #[.slice a k c, .int .i64 A]) rfl (by kernel_rfl) (.inl ⟨rfl, fun _ _ => by simp [go_sem]⟩) S0 ?_
            (try simp only [Act.put, List.getElem_toArray, List.getElem_cons_succ, List.getElem_cons_zero, List.setIfInBounds_toArray, List.set_cons_succ, List.set_cons_zero])
            refine HeadAt.take (i := 11) (.int .i64 E) rfl (by kernel_rfl) (.inl ⟨rfl, fun _ _ => by simp [go_sem]⟩) S0 ?_
            (try simp only [Act.put, List.getElem_toArray, List.getElem_cons_succ, List.getElem_cons_zero, List.setIfInBounds_toArray, List.set_cons_succ, List.set_cons_zero])
            refine HeadAt.one (i := 12) rfl (by kernel_rfl) ?_
            generalize hK : Upto _ _ = K0
            (try simp only [Act.put, List.getElem_toArray, List.getElem_cons_succ, List.getElem_cons_zero, List.setIfInBounds_toArray, List.set_cons_succ, List.set_cons_zero])
            have hba := below_one (w := V19) (.cells #[.slice none 0 0, .int .i64 0] 66)
            have HY := hid (And.intro (leS_below S0 hba) (And.intro (Bx.new V19 #[.slice none 0 0, .int .i64 0] 66) (And.intro S0.1 (hq.below hba))))
            clear hba S0 hq
            go_wp2_with fail
            obtain ⟨S0, xb, hBb, hq⟩ := HY.out
            clear HY
            generalize V19.heap.size = gb at *
            generalize World.alloc _ _ = Vn20 at *
            subst hK
            refine ⟨S0, ?_⟩
            (try simp only [Act.put, List.getElem_toArray, List.getElem_cons_succ, List.getElem_cons_zero, List.setIfInBounds_toArray, List.set_cons_succ, List.set_cons_zero])
            have d0 := xb.cell 0 rfl; have d1 := xb.cell 1 rfl; have f0 := xb.free 0; have f1 := xb.free 1
            have z1 := xb.set2 (.slice a k c) (.int .i64 A)
            have z2 := leS_put hwB S0 hBb (.slice a k c) (.int .i64 A)
            have z3 := hq.put xb (.slice a k c) (.int .i64 A)
            have HZ := hid (And.intro z1 (And.intro z2 z3))
            clear z1 z2 z3 xb S0 hq
            refine HeadAt.one (i := 13) rfl (by kernel_rfl) ?_
            generalize hK : Upto _ _ = K0
            (try simp only [Act.put, List.getElem_toArray, List.getElem_cons_succ, List.getElem_cons_zero, List.setIfInBounds_toArray, List.set_cons_succ, List.set_cons_zero])
            go_wp2_with fail
            subst hK
            clear d0 d1 f0 f1
            refine ⟨HZ.out.2.1, ?_⟩
            refine HeadAt.done (by kernel_rfl) ?_
            (try simp only [Act.put, List.drop_succ_cons, List.drop_zero, List.getElem_toArray, List.getElem_cons_succ, List.getElem_cons_zero])
            go_wp2_with fail
            refine NoPanic.normal ?_
            obtain ⟨z1, S0, hq⟩ := HZ.out
            clear HZ
            generalize World.setCell (World.setCell _ _ _) _ _ = V3 at *
            go_wp2_with fail
            go_meet
            exact ⟨gb, a, k, c, A, rfl, rfl, z1, S0, hq⟩
          · skip
            generalize hK : Upto _ _ = K0
            (try simp only [Act.put, List.getElem_toArray, List.getElem_cons_succ, List.getElem_cons_zero, List.setIfInBounds_toArray, List.set_cons_succ, List.set_cons_zero])
            have hba := below_one (w := V17) (.cells #[.slice none 0 0, .int .i64 0] 66)
            have HY := hid (And.intro (leS_below S0 hba) (And.intro (Bx.new V17 #[.slice none 0 0, .int .i64 0] 66) (And.intro S0.1 True.intro)))
            clear hba S0
            go_wp2_with fail
            obtain ⟨S0, xb, hBb, _⟩ := HY.out
            clear HY
            generalize V17.heap.size = gb at *
            generalize World.alloc _ _ = Vn21 at *
            subst hK
            refine ⟨S0, ?_⟩
            (try simp only [Act.put, List.getElem_toArray, List.getElem_cons_succ, List.getElem_cons_zero, List.setIfInBounds_toArray, List.set_cons_succ, List.set_cons_zero])
            refine HeadAt.one (i := 8) rfl (by kernel_rfl) ?_
            generalize hK : Upto _ _ = K0
            (try simp only [Act.put, List.getElem_toArray, List.getElem_cons_succ, List.getElem_cons_zero, List.setIfInBounds_toArray, List.set_cons_succ, List.set_cons_zero])
            have hak := hask _ S0.2.2.2.2
            go_wp2_with fail
            refine hak.mono ?_
            rintro e V22 ⟨C, rfl, ⟨a, k, c, A, rfl, hq0⟩, hb3⟩
            have hq : CmQ S O.length E a k c A V22 := hq0
            clear hq0 hak
            go_wp2_with fail
            replace S0 := leS_below S0 hb3
            replace xb := xb.below hb3
            clear hb3
            subst hK
            refine ⟨S0, ?_⟩
            (try simp only [Act.put, List.getElem_toArray, List.getElem_cons_succ, List.getElem_cons_zero, List.setIfInBounds_toArray, List.set_cons_succ, List.set_cons_zero])
            refine HeadAt.take (i := 9) (.tuple #[.agg #[.slice a k c, .int .i64 A], .int .i64 E]) rfl (by kernel_rfl) (.inl ⟨rfl, fun _ _ => by simp [go_sem]⟩) S0 ?_
            (try simp only [Act.put, List.getElem_toArray, List.getElem_cons_succ, List.getElem_cons_zero, List.setIfInBounds_toArray, List.set_cons_succ, List.set_cons_zero])
            refine HeadAt.take (i := 10) (.agg #[.slice a k c, .int .i64 A]) rfl (by kernel_rfl) (.inl ⟨rfl, fun _ _ => by simp [go_sem]⟩) S0 ?_
            (try simp only [Act.put, List.getElem_toArray, List.getElem_cons_succ, List.getElem_cons_zero, List.setIfInBounds_toArray, List.set_cons_succ, List.set_cons_zero])
            refine HeadAt.take (i := 11) (.int .i64 E) rfl (by kernel_rfl) (.inl ⟨rfl, fun _ _ => by simp [go_sem]⟩) S0 ?_
            (try simp only [Act.put, List.getElem_toArray, List.getElem_cons_succ, List.getElem_cons_zero, List.setIfInBounds_toArray, List.set_cons_succ, List.set_cons_zero])
            have d0 := xb.cell 0 rfl; have d1 := xb.cell 1 rfl; have f0 := xb.free 0; have f1 := xb.free 1
            have z1 := xb.set2 (.slice a k c) (.int .i64 A)
            have z2 := leS_put hwB S0 hBb (.slice a k c) (.int .i64 A)
            have z3 := hq.put xb (.slice a k c) (.int .i64 A)
            have HZ := hid (And.intro z1 (And.intro z2 z3))
            clear z1 z2 z3 xb S0 hq
            refine HeadAt.one (i := 13) rfl (by kernel_rfl) ?_
            generalize hK : Upto _ _ = K0
            (try simp only [Act.put, List.getElem_toArray, List.getElem_cons_succ, List.getElem_cons_zero, List.setIfInBounds_toArray, List.set_cons_succ, List.set_cons_zero])
            go_wp2_with fail
            subst hK
            clear d0 d1 f0 f1
            refine ⟨HZ.out.2.1, ?_⟩
            refine HeadAt.done (by kernel_rfl) ?_
            (try simp only [Act.put, List.drop_succ_cons, List.drop_zero, List.getElem_toArray, List.getElem_cons_succ, List.getElem_cons_zero])
            go_wp2_with fail
            refine NoPanic.normal ?_
            obtain ⟨z1, S0, hq⟩ := HZ.out
            clear HZ
            generalize World.setCell (World.setCell _ _ _) _ _ = V3 at *
            go_wp2_with fail
            go_meet
            exact ⟨gb, a, k, c, A, rfl, rfl, z1, S0, hq⟩
        · skip
          generalize hK : Upto _ _ = K0
          (try simp only [Act.put, List.getElem_toArray, List.getElem_cons_succ, List.getElem_cons_zero, List.setIfInBounds_toArray, List.set_cons_succ, List.set_cons_zero])
          have hba := below_one (w := V17) (.cells #[.slice none 0 0, .int .i64 0] 66)
          have HY := hid (And.intro (leS_below S0 hba) (And.intro (Bx.new V17 #[.slice none 0 0, .int .i64 0] 66) (And.intro S0.1 True.intro)))
          clear hba S0
          go_wp2_with fail
          obtain ⟨S0, xb, hBb, _⟩ := HY.out
          clear HY
          generalize V17.heap.size = gb at *
          generalize World.alloc _ _ = Vn23 at *
          subst hK
          refine ⟨S0, ?_⟩
          (try simp only [Act.put, List.getElem_toArray, List.getElem_cons_succ, List.getElem_cons_zero, List.setIfInBounds_toArray, List.set_cons_succ, List.set_cons_zero])
          refine HeadAt.one (i := 6) rfl (by kernel_rfl) ?_
          generalize hK : Upto _ _ = K0
          (try simp only [Act.put, List.getElem_toArray, List.getElem_cons_succ, List.getElem_cons_zero, List.setIfInBounds_toArray, List.set_cons_succ, List.set_cons_zero])
          go_wp2_with fail
          refine (hpo _).mono ?_
          rintro e V24 ⟨rfl, rfl⟩
          go_wp2_with fail
          subst hK
          refine ⟨S0, ?_⟩
          (try simp only [Act.put, List.getElem_toArray, List.getElem_cons_succ, List.getElem_cons_zero, List.setIfInBounds_toArray, List.set_cons_succ, List.set_cons_zero])
          refine HeadAt.take (i := 7) (.bool q) rfl (by kernel_rfl) (.inl ⟨rfl, fun w' z => ?_⟩) S0 ?_
          · (cases q <;> simp [go_sem])
          (try simp only [Act.put, List.getElem_toArray, List.getElem_cons_succ, List.getElem_cons_zero, List.setIfInBounds_toArray, List.set_cons_succ, List.set_cons_zero])
          refine HeadAt.one (i := 8) rfl (by kernel_rfl) ?_
          generalize hK : Upto _ _ = K0
          (try simp only [Act.put, List.getElem_toArray, List.getElem_cons_succ, List.getElem_cons_zero, List.setIfInBounds_toArray, List.set_cons_succ, List.set_cons_zero])
          have hak := hask _ S0.2.2.2.2
          go_wp2_with fail
          refine hak.mono ?_
          rintro e V25 ⟨C, rfl, ⟨a, k, c, A, rfl, hq0⟩, hb3⟩
          have hq : CmQ S O.length E a k c A V25 := hq0
          clear hq0 hak
          go_wp2_with fail
          replace S0 := leS_below S0 hb3
          replace xb := xb.below hb3
          clear hb3
          subst hK
          refine ⟨S0, ?_⟩
          (try simp only [Act.put, List.getElem_toArray, List.getElem_cons_succ, List.getElem_cons_zero, List.setIfInBounds_toArray, List.set_cons_succ, List.set_cons_zero])
          refine HeadAt.take (i := 9) (.tuple #[.agg #[.slice a k c, .int .i64 A], .int .i64 E]) rfl (by kernel_rfl) (.inl ⟨rfl, fun _ _ => by simp [go_sem]⟩) S0 ?_
          (try simp only [Act.put, List.getElem_toArray, List.getElem_cons_succ, List.getElem_cons_zero, List.setIfInBounds_toArray, List.set_cons_succ, List.set_cons_zero])
          refine HeadAt.take (i := 10) (.agg #[.slice a k c, .int .i64 A]) rfl (by kernel_rfl) (.inl ⟨rfl, fun _ _ => by simp [go_sem]⟩) S0 ?_
          (try simp only [Act.put, List.getElem_toArray, List.getElem_cons_succ, List.getElem_cons_zero, List.setIfInBounds_toArray, List.set_cons_succ, List.set_cons_zero])
          refine HeadAt.take (i := 11) (.int .i64 E) rfl (by kernel_rfl) (.inl ⟨rfl, fun _ _ => by simp [go_sem]⟩) S0 ?_
          (try simp only [Act.put, List.getElem_toArray, List.getElem_cons_succ, List.getElem_cons_zero, List.setIfInBounds_toArray, List.set_cons_succ, List.set_cons_zero])
          have d0 := xb.cell 0 rfl; have d1 := xb.cell 1 rfl; have f0 := xb.free 0; have f1 := xb.free 1
          have z1 := xb.set2 (.slice a k c) (.int .i64 A)
          have z2 := leS_put hwB S0 hBb (.slice a k c) (.int .i64 A)
          have z3 := hq.put xb (.slice a k c) (.int .i64 A)
          have HZ := hid (And.intro z1 (And.intro z2 z3))
          clear z1 z2 z3 xb S0 hq
          refine HeadAt.one (i := 13) rfl (by kernel_rfl) ?_
          generalize hK : Upto _ _ = K0
          (try simp only [Act.put, List.getElem_toArray, List.getElem_cons_succ, List.getElem_cons_zero, List.setIfInBounds_toArray, List.set_cons_succ, List.set_cons_zero])
          go_wp2_with fail
          subst hK
          clear d0 d1 f0 f1
          refine ⟨HZ.out.2.1, ?_⟩
          refine HeadAt.done (by kernel_rfl) ?_
          (try simp only [Act.put, List.drop_succ_cons, List.drop_zero, List.getElem_toArray, List.getElem_cons_succ, List.getElem_cons_zero])
          go_wp2_with fail
          refine NoPanic.normal ?_
          obtain ⟨z1, S0, hq⟩ := HZ.out
          clear HZ
          generalize World.setCell (World.setCell _ _ _) _ _ = V3 at *
          go_wp2_with fail
          go_meet
          exact ⟨gb, a, k, c, A, rfl, rfl, z1, S0, hq⟩
      · skip
        generalize hK : Upto _ _ = K0
        (try simp only [Act.put, List.getElem_toArray, List.getElem_cons_succ, List.getElem_cons_zero, List.setIfInBounds_toArray, List.set_cons_succ, List.set_cons_zero])
        have hba := below_one (w := Y0) (.cells #[.slice none 0 0, .int .i64 0] 66)
        have HY := hid (And.intro (leS_below S0 hba) (And.intro (Bx.new Y0 #[.slice none 0 0, .int .i64 0] 66) (And.intro S0.1 True.intro)))
        clear hba S0
        go_wp2_with fail
        obtain ⟨S0, xb, hBb, _⟩ := HY.out
        clear HY
        generalize Y0.heap.size = gb at *
        generalize World.alloc _ _ = Vn26 at *
        subst hK
        refine ⟨S0, ?_⟩
        (try simp only [Act.put, List.getElem_toArray, List.getElem_cons_succ, List.getElem_cons_zero, List.setIfInBounds_toArray, List.set_cons_succ, List.set_cons_zero])
        refine HeadAt.one (i := 3) rfl (by kernel_rfl) ?_
        generalize hK : Upto _ _ = K0
        (try simp only [Act.put, List.getElem_toArray, List.getElem_cons_succ, List.getElem_cons_zero, List.setIfInBounds_toArray, List.set_cons_succ, List.set_cons_zero])
        go_wp2_with fail
        refine (hwr _).mono ?_
        rintro e V27 ⟨rfl, hb3⟩
        go_wp2_with fail
        replace S0 := leS_below S0 hb3
        replace xb := xb.below hb3
        clear hb3
        subst hK
        refine ⟨S0, ?_⟩
        (try simp only [Act.put, List.getElem_toArray, List.getElem_cons_succ, List.getElem_cons_zero, List.setIfInBounds_toArray, List.set_cons_succ, List.set_cons_zero])
        refine HeadAt.take (i := 4) (.bool true) rfl (by kernel_rfl) (.inl ⟨rfl, fun _ _ => by simp [go_sem]⟩) S0 ?_
        (try simp only [Act.put, List.getElem_toArray, List.getElem_cons_succ, List.getElem_cons_zero, List.setIfInBounds_toArray, List.set_cons_succ, List.set_cons_zero])
        refine HeadAt.take (i := 5) (.int .i64 cents) rfl (by kernel_rfl) (.inl ⟨rfl, fun w' z => ?_⟩) S0 ?_
        · (have z0 := z.2.2.2.1.cell 0 rfl; simp [go_sem, z0])
        (try simp only [Act.put, List.getElem_toArray, List.getElem_cons_succ, List.getElem_cons_zero, List.setIfInBounds_toArray, List.set_cons_succ, List.set_cons_zero])
        refine HeadAt.one (i := 6) rfl (by kernel_rfl) ?_
        generalize hK : Upto _ _ = K0
        (try simp only [Act.put, List.getElem_toArray, List.getElem_cons_succ, List.getElem_cons_zero, List.setIfInBounds_toArray, List.set_cons_succ, List.set_cons_zero])
        go_wp2_with fail
        refine (hpo _).mono ?_
        rintro e V28 ⟨rfl, rfl⟩
        go_wp2_with fail
        subst hK
        refine ⟨S0, ?_⟩
        (try simp only [Act.put, List.getElem_toArray, List.getElem_cons_succ, List.getElem_cons_zero, List.setIfInBounds_toArray, List.set_cons_succ, List.set_cons_zero])
        refine HeadAt.take (i := 7) (.bool q) rfl (by kernel_rfl) (.inl ⟨rfl, fun w' z => ?_⟩) S0 ?_
        · (cases q <;> simp [go_sem])
        (try simp only [Act.put, List.getElem_toArray, List.getElem_cons_succ, List.getElem_cons_zero, List.setIfInBounds_toArray, List.set_cons_succ, List.set_cons_zero])
        refine HeadAt.one (i := 8) rfl (by kernel_rfl) ?_
        generalize hK : Upto _ _ = K0
        (try simp only [Act.put, List.getElem_toArray, List.getElem_cons_succ, List.getElem_cons_zero, List.setIfInBounds_toArray, List.set_cons_succ, List.set_cons_zero])
        have hak := hask _ S0.2.2.2.2
        go_wp2_with fail
        refine hak.mono ?_
        rintro e V29 ⟨C, rfl, ⟨a, k, c, A, rfl, hq0⟩, hb3⟩
        have hq : CmQ S O.length E a k c A V29 := hq0
        clear hq0 hak
        go_wp2_with fail
        replace S0 := leS_below S0 hb3
        replace xb := xb.below hb3
        clear hb3
        subst hK
        refine ⟨S0, ?_⟩
        (try simp only [Act.put, List.getElem_toArray, List.getElem_cons_succ, List.getElem_cons_zero, List.setIfInBounds_toArray, List.set_cons_succ, List.set_cons_zero])
        refine HeadAt.take (i := 9) (.tuple #[.agg #[.slice a k c, .int .i64 A], .int .i64 E]) rfl (by kernel_rfl) (.inl ⟨rfl, fun _ _ => by simp [go_sem]⟩) S0 ?_
        (try simp only [Act.put, List.getElem_toArray, List.getElem_cons_succ, List.getElem_cons_zero, List.setIfInBounds_toArray, List.set_cons_succ, List.set_cons_zero])
        refine HeadAt.take (i := 10) (.agg #[.slice a k c, .int .i64 A]) rfl (by kernel_rfl) (.inl ⟨rfl, fun _ _ => by simp [go_sem]⟩) S0 ?_
        (try simp only [Act.put, List.getElem_toArray, List.getElem_cons_succ, List.getElem_cons_zero, List.setIfInBounds_toArray, List.set_cons_succ, List.set_cons_zero])
        refine HeadAt.take (i := 11) (.int .i64 E) rfl (by kernel_rfl) (.inl ⟨rfl, fun _ _ => by simp [go_sem]⟩) S0 ?_
        (try simp only [Act.put, List.getElem_toArray, List.getElem_cons_succ, List.getElem_cons_zero, List.setIfInBounds_toArray, List.set_cons_succ, List.set_cons_zero])
        have d0 := xb.cell 0 rfl; have d1 := xb.cell 1 rfl; have f0 := xb.free 0; have f1 := xb.free 1
        have z1 := xb.set2 (.slice a k c) (.int .i64 A)
        have z2 := leS_put hwB S0 hBb (.slice a k c) (.int .i64 A)
        have z3 := hq.put xb (.slice a k c) (.int .i64 A)
        have HZ := hid (And.intro z1 (And.intro z2 z3))
        clear z1 z2 z3 xb S0 hq
        refine HeadAt.one (i := 13) rfl (by kernel_rfl) ?_
        generalize hK : Upto _ _ = K0
        (try simp only [Act.put, List.getElem_toArray, List.getElem_cons_succ, List.getElem_cons_zero, List.setIfInBounds_toArray, List.set_cons_succ, List.set_cons_zero])
        go_wp2_with fail
        subst hK
        clear d0 d1 f0 f1
        refine ⟨HZ.out.2.1, ?_⟩
        refine HeadAt.done (by kernel_rfl) ?_
        (try simp only [Act.put, List.drop_succ_cons, List.drop_zero, List.getElem_toArray, List.getElem_cons_succ, List.getElem_cons_zero])
        go_wp2_with fail
        refine NoPanic.normal ?_
        obtain ⟨z1, S0, hq⟩ := HZ.out
        clear HZ
        generalize World.setCell (World.setCell _ _ _) _ _ = V3 at *
        go_wp2_with fail
        go_meet
        exact ⟨gb, a, k, c, A, rfl, rfl, z1, S0, hq⟩
  case rest =>
    clear S0 hask hwr hpo
    rename_i wc
    obtain ⟨b, a, k, c, A, rfl, rfl, z1, ⟨hs1, z3, z5, z6, z2⟩, z4⟩ := hcut
    by_cases h0 : E = 0
    · obtain ⟨g, rfl, rfl, rfl, rfl, y⟩ := z4 h0
      obtain ⟨hv, hr1, hal⟩ := hok h0
      have hV := vB_ok hv
      have hr2 := HR.out
      rw [Bool.and_eq_true] at hr1
      rw [hr1.1] at hr2
      obtain ⟨hw0, hw1⟩ := inI_iff.1 hr2.symm
      obtain ⟨i, rfl⟩ := Int.eq_ofNat_of_zero_le hw0
      have hi : i < O.length := by omega
      have hu := hE1 h0
      have hqk := fun (P : Int) h1 h2 => qok_of (P := P) hV hal h1 h2
      have hp0 := hV.p0; have hp9 := hV.p9
      have hcl := fun (V : World) (hb : Below wc.heap.size wc V) (P : Int) (h1 : 0 ≤ P) (h2 : P ≤ 9999) => cl56_any g O.length b (w.heap.size + 1) (w.heap.size + 2) P (clL S O.length) (100 * alS S) i cents (hqk P h1 h2) hi V (z1.below hb) (z5.below hb) (z6.below hb) (y.below hb)
      obtain ⟨k0, hk0⟩ : ∃ k0 : Nat, k0 = 10000 := ⟨_, rfl⟩
      have hfp := firstPool56_any 0 9999 k0 b (w.heap.size + 1) (w.heap.size + 2) (leQ S O.length i cents) wc ⟨by omega, by omega⟩ (by omega) (by omega) (fun V P hb h1 h2 => hcl V hb P h1 h2)
      have hu3 : leF S O.length i cents = firstF (leQ S O.length i cents) k0 0 := by rw [hk0]; rfl
      rw [hu3] at hu
      generalize firstF (leQ S O.length i cents) k0 0 = F at *
      obtain ⟨rfl, rfl⟩ := hu
      subst h0
      clear hE0 hE1 hok hk0 hu3 hcl hqk hV hv hal hr1 hr2 hw0 hw1 z1 z3 z5 z6 y z4
      go_wp2_with fail
      refine hfp.mono ?_
      rintro e V9 ⟨rfl, hb3⟩
      have hbt := z2.trans (hb3.mono z2.size)
      clear hb3 hfp z2
      go_wp2
      go_ret2
      exact ⟨rfl, hbt⟩
    · have hB : (E != 0) = true := by simp [h0]
      obtain ⟨rfl, rfl⟩ := hE0 h0
      clear z4 hok hE0 hE1
      go_wp2
      go_ret2
      exact ⟨rfl, z2⟩
end Go.Proofs.Ytakodllejndfeaa
