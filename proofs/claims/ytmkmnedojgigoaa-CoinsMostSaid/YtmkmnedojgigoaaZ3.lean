import Derived.Test.YtmkmnedojgigoaaZ2
import Derived.Test.YtmkmnedojgigoaaV4
namespace Go.Proofs.Ytmkmnedojgigoaa
open Go.RowKit

/-- What the first k kinds have shown. -/
def AllInv (R : Nat) (N C xs : List Int) (p c k : Nat) (b : Bool) (M L : Nat) : Prop :=
  (b = true → (∀ i, i < k → bgN xs i = 0) ∧ M = 0 ∧ L = 0) ∧ (b = false → (∀ i, i < k → 0 < bgN xs i → candS btm R N C (spL xs p c) i ≤ M ∧ L ≤ candS btf R N C (spL xs p c) i) ∧ (∃ i, i < k ∧ 0 < bgN xs i ∧ M = candS btm R N C (spL xs p c) i) ∧ ∃ i, i < k ∧ 0 < bgN xs i ∧ L = candS btf R N C (spL xs p c) i)
theorem AllInv.skip {R : Nat} {N C xs : List Int} {p c k : Nat} {b : Bool} {M L : Nat} (h : AllInv R N C xs p c k b M L) (hz : bgN xs k = 0) : AllInv R N C xs p c (k + 1) b M L := by
  refine ⟨fun hb => ⟨fun i hi => ?_, (h.1 hb).2⟩, fun hb => ?_⟩
  · by_cases e : i = k
    · subst e; exact hz
    · exact (h.1 hb).1 i (by omega)
  · obtain ⟨h1, ⟨i, i1, i2, i3⟩, j, j1, j2, j3⟩ := h.2 hb
    refine ⟨fun i hi hp => ?_, ⟨i, by omega, i2, i3⟩, j, by omega, j2, j3⟩
    by_cases e : i = k
    · subst e; omega
    · exact h1 i (by omega) hp
theorem AllInv.first {R : Nat} {N C xs : List Int} {p c k : Nat} {M L : Nat} (h : AllInv R N C xs p c k true M L) (hz : 0 < bgN xs k) : AllInv R N C xs p c (k + 1) false (candS btm R N C (spL xs p c) k) (candS btf R N C (spL xs p c) k) := by
  refine ⟨fun hb => by simp at hb, fun _ => ⟨fun i hi hp => ?_, ⟨k, by omega, hz, rfl⟩, k, by omega, hz, rfl⟩⟩
  by_cases e : i = k
  · subst e; exact ⟨Nat.le_refl _, Nat.le_refl _⟩
  · have := (h.1 rfl).1 i (by omega); omega
theorem AllInv.more {R : Nat} {N C xs : List Int} {p c k : Nat} {M L : Nat} (h : AllInv R N C xs p c k false M L) (hz : 0 < bgN xs k) : AllInv R N C xs p c (k + 1) false (max M (candS btm R N C (spL xs p c) k)) (min L (candS btf R N C (spL xs p c) k)) := by
  obtain ⟨h1, ⟨i, i1, i2, i3⟩, j, j1, j2, j3⟩ := h.2 rfl
  refine ⟨fun hb => by simp at hb, fun _ => ⟨fun i hi hp => ?_, ?_, ?_⟩⟩
  · by_cases e : i = k
    · subst e; omega
    · have := h1 i (by omega) hp; omega
  · by_cases e : candS btm R N C (spL xs p c) k ≤ M
    · exact ⟨i, by omega, i2, by omega⟩
    · exact ⟨k, by omega, hz, by omega⟩
  · by_cases e : L ≤ candS btf R N C (spL xs p c) k
    · exact ⟨j, by omega, j2, by omega⟩
    · exact ⟨k, by omega, hz, by omega⟩

set_option maxRecDepth 100000 in
set_option maxHeartbeats 4000000 in
theorem all_rec (R : Nat) (an ac : Option Addr) (cn cc : Nat) (N C : List Int) (hv : Vw R N C) (m : Nat) : ∀ (xs : List Int) (p c : Nat) (a : Option Addr) (ca : Nat) (w : World) (_hN : Ints w an N) (_hC : Ints w ac C) (_hX : Ints w a xs) (_ho : okP C xs = true) (_hp : p < R) (_hm : mu (spL xs p c) < m) (_hc : c + 4000 * (spL xs p c).cnt ≤ 100000),
    Calls Try.prog 77 #[.agg #[.int .i64 (R : Int), .slice an N.length cn, .slice ac C.length cc], .agg #[.int .i64 p, .int .i64 c], .slice a xs.length ca] w fun e w' => e = .returned (.agg #[.int .i64 (bst btm R N C (cutS (spL xs p c)) : Nat), .int .i64 (bst btf R N C (cutS (spL xs p c)) : Nat)]) ∧ Below w.heap.size w w' := by
  induction m with
  | zero => intro xs p c a ca w hN hC hX ho hp hm hc; omega
  | succ m ih =>
  intro xs p c a ca w hN0 hC0 hX0 ho hp hm hc
  have r1 := hv.r1
  obtain ⟨o1, o2, o3⟩ := okP_mem ho
  have hx4 : xs.length ≤ 4 := by have := hv.c4; omega
  have HO := hid o1; clear o1
  obtain ⟨W, hW, hb, hs, x0⟩ := boxes1 w #[.int .i64 (R : Int), .slice an N.length cn, .slice ac C.length cc] 24
  have x1 := Bx.new W #[.int .i64 p, .int .i64 c] 26
  have hb1 := below_one (w := W) (.cells #[.int .i64 p, .int .i64 c] 26)
  replace x0 := x0.below hb1
  replace hb := hb.trans (hb1.mono hb.size)
  clear hb1
  have x2 := Bx.new (W.alloc (.cells #[.int .i64 p, .int .i64 c] 26)) #[.int .i64 0, .int .i64 0] 97
  have hb1 := below_one (w := W.alloc (.cells #[.int .i64 p, .int .i64 c] 26)) (.cells #[.int .i64 0, .int .i64 0] 97)
  replace x0 := x0.below hb1; replace x1 := x1.below hb1; replace hb := hb.trans (hb1.mono hb.size)
  clear hb1
  have x3 := Bx.new ((W.alloc (.cells #[.int .i64 p, .int .i64 c] 26)).alloc (.cells #[.int .i64 0, .int .i64 0] 97)) #[.int .i64 0, .int .i64 0] 97
  have hb1 := below_one (w := (W.alloc (.cells #[.int .i64 p, .int .i64 c] 26)).alloc (.cells #[.int .i64 0, .int .i64 0] 97)) (.cells #[.int .i64 0, .int .i64 0] 97)
  replace x0 := x0.below hb1; replace x1 := x1.below hb1; replace x2 := x2.below hb1; replace hb := hb.trans (hb1.mono hb.size)
  clear hb1
  go_enter Try.func77, Try.ntmps77
  go_wp2
  have e2 : (W.alloc (.cells #[.int .i64 p, .int .i64 c] 26)).heap.size = w.heap.size + 2 := by simp [hs]
  have e3 : ((W.alloc (.cells #[.int .i64 p, .int .i64 c] 26)).alloc (.cells #[.int .i64 0, .int .i64 0] 97)).heap.size = w.heap.size + 3 := by simp [hs]
  rw [e2] at x2
  rw [e3] at x3
  rw [hs] at x1
  (try rw [e3])
  (try rw [e2])
  (try rw [hs])
  generalize World.alloc _ (.cells #[.int .i64 0, .int .i64 0] 97) = W3 at *
  clear hW hs e2 e3
  go_loopw [8, 9] (fun s8 s9 wr => ∃ (k : Nat) (b : Bool) (M L : Nat), k ≤ xs.length ∧ s9 = .int .i64 k ∧ s8 = .bool b ∧ M ≤ 1000000 ∧ L ≤ 1000000 ∧ AllInv R N C xs p c k b M L ∧ Below w.heap.size w wr ∧ Bx wr w.heap.size #[.int .i64 (R : Int), .slice an N.length cn, .slice ac C.length cc] 24 ∧ Bx wr (w.heap.size + 1) #[.int .i64 p, .int .i64 c] 26 ∧ Bx wr (w.heap.size + 2) #[.int .i64 0, .int .i64 0] 97 ∧ Bx wr (w.heap.size + 3) #[.int .i64 M, .int .i64 L] 97) (fun s8 s9 _ => xs.length - (intOf s9).toNat)
  case atStart => exact ⟨0, true, 0, 0, Nat.zero_le _, rfl, rfl, by omega, by omega, ⟨fun _ => ⟨fun i hi => by omega, rfl, rfl⟩, fun h => by simp at h⟩, hb, x0, x1, x2, x3⟩
  case round =>
    clear hb x0 x1 x2 x3
    obtain ⟨k, b, M, L, hk', rfl, rfl, hM, hL, hI, hb, x0, x1, x2, x3⟩ := hrel
    by_cases hlt : k < xs.length
    · obtain ⟨bb, off, x, hae, hbs, hcx, _, _, hx, hd⟩ := (hX0.below hb (Nat.le_refl _)).at hlt
      have hbw : bb < w.heap.size := by
        obtain ⟨b2, off2, hae2, hb2, _⟩ := hX0.2.2 k hlt
        rw [hae] at hae2; cases hae2; exact hb2
      subst hae
      have hxb : bgN xs k = x.toNat := by unfold bgN; rw [List.getD, hx.out]; rfl
      have hx0 := o2 x (List.mem_of_getElem? hx.out)
      clear hx hd
      have hkI : (k : Int) < (xs.length : Int) := by omega
      have hk0 : (0 : Int) ≤ (k : Int) := by omega
      by_cases hxz : x = 0
      · have hI' := hI.skip (by rw [hxb, hxz]; rfl)
        subst hxz
        clear hI hxb hx0
        go_wp2_with fail
        go_roundw
        case rel => exact ⟨k + 1, b, M, L, by omega, by go_num, rfl, hM, hL, hI', hb, x0, x1, x2, x3⟩
        case measure => simp [intOf]; omega
      · have hpos : 0 < bgN xs k := by omega
        have hxzB : (x == 0) = false := by simpa using hxz
        have ha : isActB C (k : Int) = true := by have := HO.out; unfold isActB; rw [Bool.or_eq_true, inR_iff]; right; omega
        have hac : act R N C ⟨p, c⟩ (k : Int) = (⟨(p + cw C k) % R, c + gv R N p (cw C k)⟩, false) := by unfold act; rw [if_neg (by omega)]; rfl
        have x10 := x1.cell 0 rfl; have x11 := x1.cell 1 rfl
        have c0 := x0.cell 0 rfl; have c1 := x0.cell 1 rfl; have c2 := x0.cell 2 rfl
        have hbd := act_bd (N := N) (s := ⟨p, c⟩) hv ha hp
        rw [hac] at hbd
        obtain ⟨hp1, hc1⟩ := hbd
        dsimp only at hp1 hc1
        have ac1 := act_any R an ac cn cc N C ⟨p, c⟩ (k : Int) wr (hN0.below hb (Nat.le_refl _)) (hC0.below hb (Nat.le_refl _)) hv hp (by show c ≤ _; omega) ha
        rw [hac] at ac1
        dsimp only at ac1
        have hsp : coinS R N C (spL xs p c) (k : Int) = spL (lessL xs k) ((p + cw C k) % R) (c + gv R N p (cw C k)) := spL_coin (by omega) hlt hpos
        have hgM : candS btm R N C (spL xs p c) k = gv R N p (cw C k) + bst btm R N C (cutS (coinS R N C (spL xs p c) (k : Int))) := rfl
        have hgL : candS btf R N C (spL xs p c) k = gv R N p (cw C k) + bst btf R N C (cutS (coinS R N C (spL xs p c) (k : Int))) := rfl
        rw [hsp] at hgM hgL
        have hcn : (spL (lessL xs k) ((p + cw C k) % R) (c + gv R N p (cw C k))).cnt + 1 = (spL xs p c).cnt := by
          rw [← hsp]; exact dec_cnt _ _ (by rw [spL_get (by omega)]; exact hpos)
        clear hac hsp
        obtain ⟨G, hG⟩ : ∃ G, G = gv R N p (cw C k) := ⟨_, rfl⟩
        obtain ⟨p1, hp1e⟩ : ∃ p1, p1 = (p + cw C k) % R := ⟨_, rfl⟩
        rw [← hp1e] at hp1 ac1 hgM hgL hcn
        rw [← hG] at hc1 ac1 hgM hgL hcn
        obtain ⟨q1, hc1e⟩ : ∃ q1, q1 = c + G := ⟨_, rfl⟩
        rw [← hc1e] at hc1 ac1 hgM hgL hcn
        clear hG hp1e
        have hmu : mu (spL (lessL xs k) p1 q1) < m := by
          unfold mu at hm ⊢
          split <;> omega
        have ho' := okP_less ho hlt hpos
        have hih : ∀ (a1 : Option Addr) (k1 : Nat) (Y : World), Below w.heap.size w Y → Ints Y a1 (lessL xs k) → Calls Try.prog 77 #[.agg #[.int .i64 (R : Int), .slice an N.length cn, .slice ac C.length cc], .agg #[.int .i64 p1, .int .i64 q1], .slice a1 (lessL xs k).length k1] Y fun e w' => e = .returned (.agg #[.int .i64 (bst btm R N C (cutS (spL (lessL xs k) p1 q1)) : Nat), .int .i64 (bst btf R N C (cutS (spL (lessL xs k) p1 q1)) : Nat)]) ∧ Below Y.heap.size Y w' :=
          fun a1 k1 Y hbY hY => ih (lessL xs k) p1 q1 a1 k1 Y (hN0.below hbY (Nat.le_refl _)) (hC0.below hbY (Nat.le_refl _)) hY ho' hp1 hmu (by omega)
        have hn12 : (spL (lessL xs k) p1 q1).cnt ≤ 12 := okP_bag hv ho'
        have hMb := bst_le (bt := btm) hv (mu (cutS (spL (lessL xs k) p1 q1)) + 1) _ (by omega) (cutS_ok hp1 hn12)
        have hLb := bst_le (bt := btf) hv (mu (cutS (spL (lessL xs k) p1 q1)) + 1) _ (by omega) (cutS_ok hp1 hn12)
        have hn12' : (cutS (spL (lessL xs k) p1 q1)).cnt ≤ 12 := hn12
        obtain ⟨Mx, hMx⟩ : ∃ Mx, Mx = bst btm R N C (cutS (spL (lessL xs k) p1 q1)) := ⟨_, rfl⟩
        obtain ⟨Lx, hLx⟩ : ∃ Lx, Lx = bst btf R N C (cutS (spL (lessL xs k) p1 q1)) := ⟨_, rfl⟩
        rw [← hMx] at hMb hih hgM
        rw [← hLx] at hLb hih hgL
        have hMb' : Mx ≤ 48000 := by omega
        have hLb' : Lx ≤ 48000 := by omega
        have hGb : G ≤ 4000 := by omega
        have HF := hid (And.intro hgM hgL)
        clear hgM hgL hMx hLx hMb hLb hn12 hn12' hmu
        go_wp2_with fail
        refine ac1.mono ?_
        rintro e Y3 ⟨rfl, hb1⟩
        replace hcx := Below.keep hb1 hcx
        (try clear c0 c1 c2 x10 x11)
        replace x0 := x0.below hb1; replace x1 := x1.below hb1; replace x2 := x2.below hb1; replace x3 := x3.below hb1; replace hb := hb.trans (hb1.mono hb.size); clear hb1 ac1
        have HC1 := hid hc1e
        clear hc1e
        have hb1 := below_one (w := Y3) (.cells #[.int .i64 p1, .int .i64 q1] 26)
        have yg := Bx.new Y3 #[.int .i64 p1, .int .i64 q1] 26
        have lg := x3.lt
        replace hcx := Below.keep hb1 hcx
        have y0 := x0.below hb1; have y1 := x1.below hb1; have y2 := x2.below hb1; have y3 := x3.below hb1; have hbZ := hb.trans (hb1.mono hb.size); clear hb1
        clear x0 x1 x2 x3 hb
        go_upto_region 8 with fail
        generalize Y3.alloc (.cells #[.int .i64 p1, .int .i64 q1] 26) = Z at *
        generalize hgd : Y3.heap.size = g at *
        have x11 := y1.cell 1 rfl
        have g1 := yg.cell 1 rfl
        go_wp2_with fail
        have hgi : (q1 : Int) - (c : Int) = (G : Int) := by have := HC1.out; omega
        (try rw [hgi])
        clear x11 g1 hgi
        go_cut [13] (fun s13 wx => ∃ h : Nat, s13 = .pointer (some ⟨h, 0, none⟩) ∧ w.heap.size + 3 < h ∧ Bx wx h #[.int .i64 Mx, .int .i64 Lx] 97 ∧ Bx wx w.heap.size #[.int .i64 (R : Int), .slice an N.length cn, .slice ac C.length cc] 24 ∧ Bx wx (w.heap.size + 1) #[.int .i64 p, .int .i64 c] 26 ∧ Bx wx (w.heap.size + 2) #[.int .i64 0, .int .i64 0] 97 ∧ Bx wx (w.heap.size + 3) #[.int .i64 M, .int .i64 L] 97 ∧ Below w.heap.size w wx)
        case first =>
          replace y0 := y0.drew; replace y1 := y1.drew; replace y2 := y2.drew; replace y3 := y3.drew; replace yg := yg.drew; replace hbZ := hbZ.drew
          refine wp_region_head 7 (fun w' => Bx w' w.heap.size #[.int .i64 (R : Int), .slice an N.length cn, .slice ac C.length cc] 24 ∧ Bx w' g #[.int .i64 p1, .int .i64 q1] 26) (by kernel_rfl) rfl ?_
          generalize World.drew _ = Y0 at *
          refine HeadAt.take (i := 0) (.agg #[.int .i64 (R : Int), .slice an N.length cn, .slice ac C.length cc]) rfl (by kernel_rfl) (.inl ⟨rfl, fun w' z => ?_⟩) ⟨y0, yg⟩ ?_
          · (have y := z.1; have z0 := y.cell 0 rfl; have z1 := y.cell 1 rfl; have z2 := y.cell 2 rfl; simp [go_sem, z0, z1, z2])
          refine HeadAt.take (i := 1) (.agg #[.int .i64 p1, .int .i64 q1]) rfl (by kernel_rfl) (.inl ⟨rfl, fun w' z => ?_⟩) ⟨y0, yg⟩ ?_
          · (have y := z.2; have z0 := y.cell 0 rfl; have z1 := y.cell 1 rfl; simp [go_sem, z0, z1])
          refine HeadAt.take (i := 2) (.slice (some ⟨bb, off, none⟩) xs.length ca) rfl (by kernel_rfl) (.inl ⟨rfl, fun _ _ => by simp [go_sem]⟩) ⟨y0, yg⟩ ?_
          refine HeadAt.take (i := 3) (.int .i64 k) rfl (by kernel_rfl) (.inl ⟨rfl, fun _ _ => by simp [go_sem]⟩) ⟨y0, yg⟩ ?_
          refine HeadAt.two (i := 4) (j := 6) rfl rfl (by kernel_rfl) ?_ ?_
          · skip
            generalize hK : Upto _ _ = K0
            (try simp only [Act.put, List.getElem_toArray, List.getElem_cons_succ, List.getElem_cons_zero, List.setIfInBounds_toArray, List.set_cons_succ, List.set_cons_zero])
            go_wp2_with fail
            refine (less_any _ _ _ k _ (hX0.below hbZ (Nat.le_refl _)) (by omega) hlt (fun x hx => by have := o2 x hx; omega)).mono ?_
            rintro e Y1 ⟨hb1, a1, k1, rfl, hS, -⟩
            replace y0 := y0.below hb1; replace y1 := y1.below hb1; replace y2 := y2.below hb1; replace y3 := y3.below hb1; replace yg := yg.below hb1; replace hbZ := hbZ.trans (hb1.mono hbZ.size); clear hb1
            go_wp2_with fail
            subst hK
            refine ⟨⟨y0, yg⟩, ?_⟩
            refine HeadAt.two (i := 5) (j := 6) rfl rfl (by kernel_rfl) ?_ ?_
            · skip
              generalize hK : Upto _ _ = K0
              (try simp only [List.getElem_toArray, List.getElem_cons_succ, List.getElem_cons_zero])
              go_wp2_with fail
              refine (hih _ _ _ hbZ hS).mono ?_
              rintro e Y2 ⟨rfl, hb1⟩
              replace y0 := y0.below hb1; replace y1 := y1.below hb1; replace y2 := y2.below hb1; replace y3 := y3.below hb1; replace yg := yg.below hb1; replace hbZ := hbZ.trans (hb1.mono hbZ.size); clear hb1
              go_wp2_with fail
              subst hK
              refine ⟨⟨y0, yg⟩, ?_⟩
              refine HeadAt.one (i := 6) rfl (by kernel_rfl) ?_
              generalize hK : Upto _ _ = K0
              (try simp only [List.getElem_toArray, List.getElem_cons_succ, List.getElem_cons_zero])
              have lgy := y3.lt
              have hb1 := below_one (w := Y2) (.cells #[.int .i64 0, .int .i64 0] 97)
              have xh := Bx.new Y2 #[.int .i64 Mx, .int .i64 Lx] 97
              have hb2 := below_one (w := Y2) (.cells #[.int .i64 Mx, .int .i64 Lx] 97)
              go_wp2_with fail
              subst hK
              refine ⟨⟨y0.below hb1, yg.below hb1⟩, ?_⟩
              refine HeadAt.done (by kernel_rfl) ?_
              (try simp only [List.drop_succ_cons, List.drop_zero])
              go_wp2_with fail
              refine NoPanic.normal ?_
              go_wp2_with fail
              go_meet
              exact ⟨Y2.heap.size, rfl, by omega, xh, y0.below hb2, y1.below hb2, y2.below hb2, y3.below hb2, hbZ.trans (hb2.mono hbZ.size)⟩
            · skip
              generalize hK : Upto _ _ = K0
              (try simp only [List.getElem_toArray, List.getElem_cons_succ, List.getElem_cons_zero])
              have lgy := y3.lt
              have hb1 := below_one (w := Y1) (.cells #[.int .i64 0, .int .i64 0] 97)
              have xh := Bx.new Y1 #[.int .i64 0, .int .i64 0] 97
              go_wp2_with fail
              replace y0 := y0.below hb1; replace y1 := y1.below hb1; replace y2 := y2.below hb1; replace y3 := y3.below hb1; replace yg := yg.below hb1; replace hbZ := hbZ.trans (hb1.mono hbZ.size); replace hS := hS.below hb1 (Nat.le_refl _); clear hb1
              generalize Y1.alloc (.cells #[.int .i64 0, .int .i64 0] 97) = Ya at *
              generalize Y1.heap.size = h at *
              subst hK
              refine ⟨⟨y0, yg⟩, ?_⟩
              refine HeadAt.one (i := 5) rfl (by kernel_rfl) ?_
              generalize hK : Upto _ _ = K0
              (try simp only [List.getElem_toArray, List.getElem_cons_succ, List.getElem_cons_zero])
              go_wp2_with fail
              refine (hih _ _ _ hbZ hS).mono ?_
              rintro e Y2 ⟨rfl, hb1⟩
              replace y0 := y0.below hb1; replace y1 := y1.below hb1; replace y2 := y2.below hb1; replace y3 := y3.below hb1; replace yg := yg.below hb1; replace hbZ := hbZ.trans (hb1.mono hbZ.size); replace xh := xh.below hb1; clear hb1
              go_wp2_with fail
              subst hK
              refine ⟨⟨y0, yg⟩, ?_⟩
              refine HeadAt.done (by kernel_rfl) ?_
              (try simp only [List.drop_succ_cons, List.drop_zero])
              have g0 := xh.cell 0 rfl; have g1 := xh.cell 1 rfl
              have f0 := xh.free 0; have f1 := xh.free 1
              have hst : ∃ Y, (Y2.setCell ⟨h, 0, none⟩ (.int .i64 Mx)).setCell ⟨h, 1, none⟩ (.int .i64 Lx) = Y ∧ Bx Y h #[.int .i64 Mx, .int .i64 Lx] 97 ∧ Bx Y w.heap.size #[.int .i64 (R : Int), .slice an N.length cn, .slice ac C.length cc] 24 ∧ Bx Y (w.heap.size + 1) #[.int .i64 p, .int .i64 c] 26 ∧ Bx Y (w.heap.size + 2) #[.int .i64 0, .int .i64 0] 97 ∧ Bx Y (w.heap.size + 3) #[.int .i64 M, .int .i64 L] 97 ∧ Below w.heap.size w Y :=
                ⟨_, rfl, xh.set2 _ _, (y0.other (a := ⟨h, 0, none⟩) (by show w.heap.size ≠ h; omega) _).other (a := ⟨h, 1, none⟩) (by show w.heap.size ≠ h; omega) _,
                  (y1.other (a := ⟨h, 0, none⟩) (by show w.heap.size + 1 ≠ h; omega) _).other (a := ⟨h, 1, none⟩) (by show w.heap.size + 1 ≠ h; omega) _,
                  (y2.other (a := ⟨h, 0, none⟩) (by show w.heap.size + 2 ≠ h; omega) _).other (a := ⟨h, 1, none⟩) (by show w.heap.size + 2 ≠ h; omega) _,
                  (y3.other (a := ⟨h, 0, none⟩) (by show w.heap.size + 3 ≠ h; omega) _).other (a := ⟨h, 1, none⟩) (by show w.heap.size + 3 ≠ h; omega) _,
                  (hbZ.setCell (by show w.heap.size ≤ h; omega) _).setCell (by show w.heap.size ≤ h; omega) _⟩
              obtain ⟨Y, hY, q0, q1', q2, q3, q4, q5⟩ := hst
              go_wp2_with fail
              refine NoPanic.normal ?_
              go_wp2_with fail
              go_meet
              exact ⟨h, rfl, by omega, q0, q1', q2, q3, q4, q5⟩
          · skip
            generalize hK : Upto _ _ = K0
            (try simp only [Act.put, List.getElem_toArray, List.getElem_cons_succ, List.getElem_cons_zero, List.setIfInBounds_toArray, List.set_cons_succ, List.set_cons_zero])
            have lgy := y3.lt
            have hb1 := below_one (w := Y0) (.cells #[.int .i64 0, .int .i64 0] 97)
            have xh := Bx.new Y0 #[.int .i64 0, .int .i64 0] 97
            go_wp2_with fail
            replace y0 := y0.below hb1; replace y1 := y1.below hb1; replace y2 := y2.below hb1; replace y3 := y3.below hb1; replace yg := yg.below hb1; replace hbZ := hbZ.trans (hb1.mono hbZ.size); clear hb1
            generalize Y0.alloc (.cells #[.int .i64 0, .int .i64 0] 97) = Ya at *
            generalize Y0.heap.size = h at *
            subst hK
            refine ⟨⟨y0, yg⟩, ?_⟩
            refine HeadAt.one (i := 4) rfl (by kernel_rfl) ?_
            generalize hK : Upto _ _ = K0
            (try simp only [List.getElem_toArray, List.getElem_cons_succ, List.getElem_cons_zero])
            go_wp2_with fail
            refine (less_any _ _ _ k _ (hX0.below hbZ (Nat.le_refl _)) (by omega) hlt (fun x hx => by have := o2 x hx; omega)).mono ?_
            rintro e Y1 ⟨hb1, a1, k1, rfl, hS, -⟩
            replace y0 := y0.below hb1; replace y1 := y1.below hb1; replace y2 := y2.below hb1; replace y3 := y3.below hb1; replace yg := yg.below hb1; replace hbZ := hbZ.trans (hb1.mono hbZ.size); replace xh := xh.below hb1; clear hb1
            go_wp2_with fail
            subst hK
            refine ⟨⟨y0, yg⟩, ?_⟩
            refine HeadAt.one (i := 5) rfl (by kernel_rfl) ?_
            generalize hK : Upto _ _ = K0
            (try simp only [List.getElem_toArray, List.getElem_cons_succ, List.getElem_cons_zero])
            go_wp2_with fail
            refine (hih _ _ _ hbZ hS).mono ?_
            rintro e Y2 ⟨rfl, hb1⟩
            replace y0 := y0.below hb1; replace y1 := y1.below hb1; replace y2 := y2.below hb1; replace y3 := y3.below hb1; replace yg := yg.below hb1; replace hbZ := hbZ.trans (hb1.mono hbZ.size); replace xh := xh.below hb1; clear hb1
            go_wp2_with fail
            subst hK
            refine ⟨⟨y0, yg⟩, ?_⟩
            refine HeadAt.done (by kernel_rfl) ?_
            (try simp only [List.drop_succ_cons, List.drop_zero])
            have g0 := xh.cell 0 rfl; have g1 := xh.cell 1 rfl
            have f0 := xh.free 0; have f1 := xh.free 1
            have hst : ∃ Y, (Y2.setCell ⟨h, 0, none⟩ (.int .i64 Mx)).setCell ⟨h, 1, none⟩ (.int .i64 Lx) = Y ∧ Bx Y h #[.int .i64 Mx, .int .i64 Lx] 97 ∧ Bx Y w.heap.size #[.int .i64 (R : Int), .slice an N.length cn, .slice ac C.length cc] 24 ∧ Bx Y (w.heap.size + 1) #[.int .i64 p, .int .i64 c] 26 ∧ Bx Y (w.heap.size + 2) #[.int .i64 0, .int .i64 0] 97 ∧ Bx Y (w.heap.size + 3) #[.int .i64 M, .int .i64 L] 97 ∧ Below w.heap.size w Y :=
              ⟨_, rfl, xh.set2 _ _, (y0.other (a := ⟨h, 0, none⟩) (by show w.heap.size ≠ h; omega) _).other (a := ⟨h, 1, none⟩) (by show w.heap.size ≠ h; omega) _,
                (y1.other (a := ⟨h, 0, none⟩) (by show w.heap.size + 1 ≠ h; omega) _).other (a := ⟨h, 1, none⟩) (by show w.heap.size + 1 ≠ h; omega) _,
                (y2.other (a := ⟨h, 0, none⟩) (by show w.heap.size + 2 ≠ h; omega) _).other (a := ⟨h, 1, none⟩) (by show w.heap.size + 2 ≠ h; omega) _,
                (y3.other (a := ⟨h, 0, none⟩) (by show w.heap.size + 3 ≠ h; omega) _).other (a := ⟨h, 1, none⟩) (by show w.heap.size + 3 ≠ h; omega) _,
                (hbZ.setCell (by show w.heap.size ≤ h; omega) _).setCell (by show w.heap.size ≤ h; omega) _⟩
            obtain ⟨Y, hY, q0, q1', q2, q3, q4, q5⟩ := hst
            go_wp2_with fail
            refine NoPanic.normal ?_
            go_wp2_with fail
            go_meet
            exact ⟨h, rfl, by omega, q0, q1', q2, q3, q4, q5⟩
        case rest =>

          clear y0 y1 y2 y3 hbZ yg
          obtain ⟨h, rfl, hh, xh, y0, y1, y2, y3, hbZ⟩ := hcut
          have y30 := y3.cell 0 rfl; have y31 := y3.cell 1 rfl
          have f0 := y3.free 0; have f1 := y3.free 1
          have h0 := xh.cell 0 rfl; have h1 := xh.cell 1 rfl
          clear hih ih
          have hst : ∀ (V : World) (A B v1 v2 : Int), Bx V w.heap.size #[.int .i64 (R : Int), .slice an N.length cn, .slice ac C.length cc] 24 → Bx V (w.heap.size + 1) #[.int .i64 p, .int .i64 c] 26 → Bx V (w.heap.size + 2) #[.int .i64 0, .int .i64 0] 97 → Bx V (w.heap.size + 3) #[.int .i64 A, .int .i64 B] 97 → Bx V h #[.int .i64 Mx, .int .i64 Lx] 97 → Below w.heap.size w V →
              ∃ Y, (V.setCell ⟨w.heap.size + 1 + 1 + 1, 0, none⟩ (.int .i64 v1)).setCell ⟨w.heap.size + 1 + 1 + 1, 1, none⟩ (.int .i64 v2) = Y ∧ Bx Y w.heap.size #[.int .i64 (R : Int), .slice an N.length cn, .slice ac C.length cc] 24 ∧ Bx Y (w.heap.size + 1) #[.int .i64 p, .int .i64 c] 26 ∧ Bx Y (w.heap.size + 2) #[.int .i64 0, .int .i64 0] 97 ∧ Bx Y (w.heap.size + 3) #[.int .i64 v1, .int .i64 v2] 97 ∧ Bx Y h #[.int .i64 Mx, .int .i64 Lx] 97 ∧ Below w.heap.size w Y := fun V A B v1 v2 z0 z1 z2 z3 zh zb =>
            ⟨_, rfl, (z0.other (a := ⟨w.heap.size + 3, 0, none⟩) (by show w.heap.size ≠ w.heap.size + 3; omega) _).other (a := ⟨w.heap.size + 3, 1, none⟩) (by show w.heap.size ≠ w.heap.size + 3; omega) _,
              (z1.other (a := ⟨w.heap.size + 3, 0, none⟩) (by show w.heap.size + 1 ≠ w.heap.size + 3; omega) _).other (a := ⟨w.heap.size + 3, 1, none⟩) (by show w.heap.size + 1 ≠ w.heap.size + 3; omega) _,
              (z2.other (a := ⟨w.heap.size + 3, 0, none⟩) (by show w.heap.size + 2 ≠ w.heap.size + 3; omega) _).other (a := ⟨w.heap.size + 3, 1, none⟩) (by show w.heap.size + 2 ≠ w.heap.size + 3; omega) _,
              z3.set2 _ _,
              (zh.other (a := ⟨w.heap.size + 3, 0, none⟩) (by show h ≠ w.heap.size + 3; omega) _).other (a := ⟨w.heap.size + 3, 1, none⟩) (by show h ≠ w.heap.size + 3; omega) _,
              (zb.setCell (by show w.heap.size ≤ w.heap.size + 3; omega) _).setCell (by show w.heap.size ≤ w.heap.size + 3; omega) _⟩
          cases b
          · have hI2 := hI.more hpos
            rw [HF.out.1, HF.out.2] at hI2
            have em : ((max M (G + Mx) : Nat) : Int) = max (M : Int) ((G : Int) + (Mx : Int)) := by omega
            have el : ((min L (G + Lx) : Nat) : Int) = min (L : Int) ((G : Int) + (Lx : Int)) := by omega
            have HE := hid (And.intro em el)
            clear em el
            obtain ⟨Y, hY, q0, q1', q2, q3, -, q5⟩ := hst _ M L (max (M : Int) ((G : Int) + (Mx : Int))) (min (L : Int) ((G : Int) + (Lx : Int))) y0 y1 y2 y3 xh hbZ
            clear hst hI
            go_wp2_with fail
            go_roundw
            case rel =>
              (try rw [hY])
              exact ⟨k + 1, false, max M (G + Mx), min L (G + Lx), by omega, by go_num, rfl, by omega, by omega, hI2, q5, q0, q1', q2, by rw [HE.out.1, HE.out.2]; exact q3⟩
            case measure => simp [intOf]; omega
          · have hI2 := hI.first hpos
            rw [HF.out.1, HF.out.2] at hI2
            obtain ⟨Y, hY, q0, q1', q2, q3, qh, q5⟩ := hst _ M L ((G : Int) + (Mx : Int)) ((G : Int) + (Lx : Int)) y0 y1 y2 y3 xh hbZ
            obtain ⟨Y2, hY2, r0, r1', r2, r3, -, r5⟩ := hst Y ((G : Int) + (Mx : Int)) ((G : Int) + (Lx : Int)) ((G : Int) + (Mx : Int)) ((G : Int) + (Lx : Int)) q0 q1' q2 q3 qh q5
            clear hst hI
            go_upto_region 12 with fail
            (try rw [hY])
            clear hY y30 y31 f0 f1 h0 h1
            have y30 := q3.cell 0 rfl; have y31 := q3.cell 1 rfl
            have f0 := q3.free 0; have f1 := q3.free 1
            have h0 := qh.cell 0 rfl; have h1 := qh.cell 1 rfl
            go_wp2_with fail
            go_roundw
            case rel =>
              (try rw [hY2])
              exact ⟨k + 1, false, G + Mx, G + Lx, by omega, by go_num, rfl, by omega, by omega, hI2, r5, r0, r1', r2, r3⟩
            case measure => simp [intOf]; omega
    · have he : k = xs.length := by omega
      subst he
      have hlI : ((xs.length : Nat) : Int) ≤ (xs.length : Int) := Int.le_refl _
      have hf : Fit C (spL xs p c) := fun i h1 h2 => fit_ps ho i h1 h2
      have hn12 : (spL xs p c).cnt ≤ 12 := okP_bag hv ho
      have x10 := x1.cell 0 rfl; have x11 := x1.cell 1 rfl
      have y20 := x2.cell 0 rfl; have y21 := x2.cell 1 rfl
      have f20 := x2.free 0; have f21 := x2.free 1
      have y30 := x3.cell 0 rfl; have y31 := x3.cell 1 rfl
      have f0 := x3.free 0; have f1 := x3.free 1
      have hfin : b = true ∨ ¬ (0 < c ∧ 0 < p) → bst btm R N C (cutS (spL xs p c)) = M ∧ bst btf R N C (cutS (spL xs p c)) = L := by
        intro h
        cases b
        · rcases h with h | h
          · simp at h
          · obtain ⟨g1, ⟨i, i1, i2, i3⟩, j, j1, j2, j3⟩ := hI.2 rfl
            have h0 : (spL xs p c).cnt ≠ 0 := by
              have h4 : (spL xs p c).get (i : Int) = bgN xs i := spL_get (by omega)
              have := dec_cnt (spL xs p c) (i : Int) (by omega)
              omega
            have hO := HO.out
            refine ⟨cut_most hv hp hn12 hf h0 (fun i hi hq => ?_) (fun h1 h2 => absurd ⟨h1, h2⟩ h) (.inl ⟨i, by omega, by rw [spL_get (by omega)]; exact i2, i3⟩), cut_least hv hp hn12 hf h0 (fun i hi hq => ?_) (fun h1 h2 => absurd ⟨h1, h2⟩ h) (.inl ⟨j, by omega, by rw [spL_get (by omega)]; exact j2, j3⟩)⟩
            · rw [spL_get (by omega)] at hq; exact (g1 i (by omega) hq).1
            · rw [spL_get (by omega)] at hq; exact (g1 i (by omega) hq).2
        · obtain ⟨g1, rfl, rfl⟩ := hI.1 rfl
          have h0 : (spL xs p c).cnt = 0 := by
            have q : ∀ i, i ≤ 3 → bgN xs i = 0 := fun i hi => by
              by_cases e : i < xs.length
              · exact g1 i e
              · unfold bgN; rw [List.getD_eq_getElem?_getD, List.getElem?_eq_none (by omega)]; rfl
            have a0 := q 0 (by omega); have a1 := q 1 (by omega); have a2 := q 2 (by omega); have a3 := q 3 (by omega)
            show bgN xs 0 + bgN xs 1 + bgN xs 2 + bgN xs 3 = 0
            omega
          exact ⟨cut_zero hv hp h0, cut_zero hv hp h0⟩
      by_cases hcp : b = true ∨ ¬ (0 < c ∧ 0 < p)
      · obtain ⟨e1, e2⟩ := hfin hcp
        have HI := hid hI
        have HE := hid (And.intro e1 e2)
        clear hfin hI e1 e2 ih
        have hbx : ∀ v1 v2 : Value, Below w.heap.size w ((wr.setCell ⟨w.heap.size + 1 + 1, 0, none⟩ v1).setCell ⟨w.heap.size + 1 + 1, 1, none⟩ v2) := fun v1 v2 => (hb.setCell (by show w.heap.size ≤ w.heap.size + 2; omega) _).setCell (by show w.heap.size ≤ w.heap.size + 2; omega) _
        have hz2 := x2.set2 (.int .i64 M) (.int .i64 L)
        have k0 : ((wr.setCell ⟨w.heap.size + 1 + 1, 0, none⟩ (.int .i64 M)).setCell ⟨w.heap.size + 1 + 1, 1, none⟩ (.int .i64 L)).cell? ⟨w.heap.size + 1 + 1, 0, none⟩ = some (.int .i64 M) := hz2.cell 0 rfl
        have k1 : ((wr.setCell ⟨w.heap.size + 1 + 1, 0, none⟩ (.int .i64 M)).setCell ⟨w.heap.size + 1 + 1, 1, none⟩ (.int .i64 L)).cell? ⟨w.heap.size + 1 + 1, 1, none⟩ = some (.int .i64 L) := hz2.cell 1 rfl
        clear hz2
        cases b
        · by_cases hc0 : c = 0
          · subst hc0
            go_wp2
            refine bodyPost_ret (v := .agg #[.int .i64 M, .int .i64 L]) ?_ rfl ⟨by rw [HE.out.1, HE.out.2], hbx _ _⟩
            simp [results, Try.results77, go_sem, k0, k1]
          · have hp0 : p = 0 := by
              rcases hcp with h | h
              · simp at h
              · omega
            subst hp0
            have hcI : (0 : Int) < (c : Int) := by omega
            go_wp2
            refine bodyPost_ret (v := .agg #[.int .i64 M, .int .i64 L]) ?_ rfl ⟨by rw [HE.out.1, HE.out.2], hbx _ _⟩
            simp [results, Try.results77, go_sem, k0, k1]
        · go_wp2
          refine bodyPost_ret (v := .agg #[.int .i64 M, .int .i64 L]) ?_ rfl ⟨by rw [HE.out.1, HE.out.2], hbx _ _⟩
          simp [results, Try.results77, go_sem, k0, k1]
      · have hcp2 : b = false ∧ 0 < c ∧ 0 < p := by
          cases b
          · refine ⟨rfl, ?_⟩
            rcases Decidable.em (0 < c ∧ 0 < p) with h | h
            · exact h
            · exact absurd (.inr h) hcp
          · exact absurd (.inl rfl) hcp
        obtain ⟨rfl, hc0, hp0⟩ := hcp2
        clear hcp hfin
        obtain ⟨g1, ⟨i, i1, i2, i3⟩, j, j1, j2, j3⟩ := hI.2 rfl
        have h0 : (spL xs p c).cnt ≠ 0 := by
          have h4 : (spL xs p c).get (i : Int) = bgN xs i := spL_get (by omega)
          have := dec_cnt (spL xs p c) (i : Int) (by omega)
          omega
        have hO := HO.out
        have ac1 := act_any R an ac cn cc N C ⟨p, c⟩ (-1) wr (hN0.below hb (Nat.le_refl _)) (hC0.below hb (Nat.le_refl _)) hv hp (by show c ≤ _; omega) (by unfold isActB; simp)
        have hac : act R N C ⟨p, c⟩ (-1) = (⟨0, c - 1⟩, true) := by unfold act; rw [if_pos rfl, if_neg (by show c ≠ 0; omega)]
        rw [hac] at ac1
        dsimp only at ac1
        have hq1 : c - 1 + 4000 * (spL xs p c).cnt ≤ 100000 := by omega
        have hmu : mu (spL xs 0 (c - 1)) < m := by
          have e : (spL xs 0 (c - 1)).cnt = (spL xs p c).cnt := rfl
          unfold mu at hm ⊢
          rw [e]
          have e2 : (spL xs p c).p = p := rfl
          have e3 : (spL xs 0 (c - 1)).p = 0 := rfl
          rw [e2] at hm; rw [e3]
          rw [if_pos hp0] at hm
          simp; omega
        have hn12' : (spL xs 0 (c - 1)).cnt ≤ 12 := hn12
        have hMb := bst_le (bt := btm) hv (mu (cutS (spL xs 0 (c - 1))) + 1) _ (by omega) (cutS_ok (by show 0 < R; omega) hn12')
        have hLb := bst_le (bt := btf) hv (mu (cutS (spL xs 0 (c - 1))) + 1) _ (by omega) (cutS_ok (by show 0 < R; omega) hn12')
        have hn13' : (cutS (spL xs 0 (c - 1))).cnt ≤ 12 := hn12
        have hih : ∀ (Y : World), Below w.heap.size w Y → Calls Try.prog 77 #[.agg #[.int .i64 (R : Int), .slice an N.length cn, .slice ac C.length cc], .agg #[.int .i64 0, .int .i64 (c - 1 : Nat)], .slice a xs.length ca] Y fun e w' => e = .returned (.agg #[.int .i64 (bst btm R N C (cutS (spL xs 0 (c - 1))) : Nat), .int .i64 (bst btf R N C (cutS (spL xs 0 (c - 1))) : Nat)]) ∧ Below Y.heap.size Y w' :=
          fun Y hbY => ih xs 0 (c - 1) a ca Y (hN0.below hbY (Nat.le_refl _)) (hC0.below hbY (Nat.le_refl _)) (hX0.below hbY (Nat.le_refl _)) ho (by omega) hmu hq1
        have hfM : ∀ Z, Z = bst btm R N C (cutS (spL xs 0 (c - 1))) → bst btm R N C (cutS (spL xs p c)) = max M Z := fun Z hZ => by
          subst hZ
          refine cut_most hv hp hn12 hf h0 (fun i hi hq => ?_) (fun _ _ => by rw [spL_sel]; omega) ?_
          · rw [spL_get (by omega)] at hq; have := (g1 i (by omega) hq).1; omega
          · by_cases e : bst btm R N C (cutS (spL xs 0 (c - 1))) ≤ M
            · exact .inl ⟨i, by omega, by rw [spL_get (by omega)]; exact i2, by rw [← i3]; omega⟩
            · exact .inr ⟨hc0, hp0, by rw [spL_sel]; omega⟩
        have hfL : ∀ Z, Z = bst btf R N C (cutS (spL xs 0 (c - 1))) → bst btf R N C (cutS (spL xs p c)) = min L Z := fun Z hZ => by
          subst hZ
          refine cut_least hv hp hn12 hf h0 (fun i hi hq => ?_) (fun _ _ => by rw [spL_sel]; omega) ?_
          · rw [spL_get (by omega)] at hq; have := (g1 i (by omega) hq).2; omega
          · by_cases e : L ≤ bst btf R N C (cutS (spL xs 0 (c - 1)))
            · exact .inl ⟨j, by omega, by rw [spL_get (by omega)]; exact j2, by rw [← j3]; omega⟩
            · exact .inr ⟨hc0, hp0, by rw [spL_sel]; omega⟩
        obtain ⟨Mx, hMx⟩ : ∃ Mx, Mx = bst btm R N C (cutS (spL xs 0 (c - 1))) := ⟨_, rfl⟩
        obtain ⟨Lx, hLx⟩ : ∃ Lx, Lx = bst btf R N C (cutS (spL xs 0 (c - 1))) := ⟨_, rfl⟩
        have HE := hid (And.intro (hfM Mx hMx) (hfL Lx hLx))
        rw [← hMx] at hMb hih
        rw [← hLx] at hLb hih
        have hMb' : Mx ≤ 48000 := by omega
        have hLb' : Lx ≤ 48000 := by omega
        have HG := hid hmu
        clear hfM hfL hMx hLx hMb hLb hn12 hn12' hn13' hmu g1 i1 i2 i3 j1 j2 j3 hac h0 hf hI hO hq1
        obtain ⟨q1, hq1⟩ : ∃ q1, q1 = c - 1 := ⟨_, rfl⟩
        rw [← hq1] at hih ac1
        have hc0I : (0 : Int) < (c : Int) := by omega
        have hp0I : (0 : Int) < (p : Int) := by omega
        have hq1b : q1 ≤ 100000 := by omega
        have HQ := hid hq1; clear hq1
        clear y20 y21 f20 f21 y30 y31 f0 f1 ih
        have c0 := x0.cell 0 rfl; have c1 := x0.cell 1 rfl; have c2 := x0.cell 2 rfl
        go_wp2_with fail
        refine ac1.mono ?_
        rintro e Y3 ⟨rfl, hb1⟩
        replace x0 := x0.below hb1; replace x1 := x1.below hb1; replace x2 := x2.below hb1; replace x3 := x3.below hb1; replace hb := hb.trans (hb1.mono hb.size); clear hb1 ac1
        (try clear c0 c1 c2 x10 x11)
        have hb1 := below_one (w := Y3) (.cells #[.int .i64 0, .int .i64 q1] 26)
        have yg := Bx.new Y3 #[.int .i64 0, .int .i64 q1] 26
        have lg := x3.lt
        have y0 := x0.below hb1; have y1 := x1.below hb1; have y2 := x2.below hb1; have y3 := x3.below hb1; have hbZ := hb.trans (hb1.mono hb.size); clear hb1
        clear x0 x1 x2 x3 hb
        go_upto_region 16 with fail
        generalize Y3.alloc (.cells #[.int .i64 0, .int .i64 q1] 26) = Z at *
        generalize hgd : Y3.heap.size = g at *
        have g0 := yg.cell 0 rfl; have g1 := yg.cell 1 rfl
        have c0 := y0.cell 0 rfl; have c1 := y0.cell 1 rfl; have c2 := y0.cell 2 rfl
        go_wp2_with fail
        refine (hih _ hbZ).mono ?_
        rintro e Y4 ⟨rfl, hb1⟩
        clear c0 c1 c2 g0 g1 yg y0 y1 hih
        replace y2 := y2.below hb1; replace y3 := y3.below hb1; replace hbZ := hbZ.trans (hb1.mono hbZ.size); clear hb1
        have lg3 := y3.lt
        have hb1 := below_one (w := Y4) (.cells #[.int .i64 Mx, .int .i64 Lx] 97)
        have xh := Bx.new Y4 #[.int .i64 Mx, .int .i64 Lx] 97
        replace y2 := y2.below hb1; replace y3 := y3.below hb1; replace hbZ := hbZ.trans (hb1.mono hbZ.size); clear hb1
        go_upto_region 17 with fail
        generalize Y4.alloc (.cells #[.int .i64 Mx, .int .i64 Lx] 97) = Z4 at *
        generalize hg4 : Y4.heap.size = h at *
        have em : ((max M Mx : Nat) : Int) = max (M : Int) (Mx : Int) := by omega
        have el : ((min L Lx : Nat) : Int) = min (L : Int) (Lx : Int) := by omega
        have HEM := hid (And.intro em el)
        clear em el
        have y30 := y3.cell 0 rfl; have y31 := y3.cell 1 rfl
        have f0 := y3.free 0; have f1 := y3.free 1
        have h0 := xh.cell 0 rfl; have h1 := xh.cell 1 rfl
        obtain ⟨V1, hV1⟩ : ∃ v : Int, v = max (M : Int) (Mx : Int) := ⟨_, rfl⟩
        obtain ⟨V2, hV2⟩ : ∃ v : Int, v = min (L : Int) (Lx : Int) := ⟨_, rfl⟩
        rw [← hV1, ← hV2] at HEM
        have hst : ∃ Y, (Z4.setCell ⟨w.heap.size + 1 + 1 + 1, 0, none⟩ (.int .i64 V1)).setCell ⟨w.heap.size + 1 + 1 + 1, 1, none⟩ (.int .i64 V2) = Y ∧ Bx Y (w.heap.size + 2) #[.int .i64 0, .int .i64 0] 97 ∧ Bx Y (w.heap.size + 3) #[.int .i64 V1, .int .i64 V2] 97 ∧ Below w.heap.size w Y :=
          ⟨_, rfl, (y2.other (a := ⟨w.heap.size + 3, 0, none⟩) (by show w.heap.size + 2 ≠ w.heap.size + 3; omega) _).other (a := ⟨w.heap.size + 3, 1, none⟩) (by show w.heap.size + 2 ≠ w.heap.size + 3; omega) _, y3.set2 _ _, (hbZ.setCell (by show w.heap.size ≤ w.heap.size + 3; omega) _).setCell (by show w.heap.size ≤ w.heap.size + 3; omega) _⟩
        rw [hV1, hV2] at hst
        obtain ⟨Y, hY, q2, q3, q5⟩ := hst
        clear y2 y3
        go_upto_region 18 with fail
        (try rw [hY])
        clear hY y30 y31 f0 f1 h0 h1 xh
        rw [← hV1, ← hV2] at q3
        clear hV1 hV2
        have y20 := q2.cell 0 rfl; have y21 := q2.cell 1 rfl
        have f20 := q2.free 0; have f21 := q2.free 1
        have y30 := q3.cell 0 rfl; have y31 := q3.cell 1 rfl
        have hz2 := q2.set2 (.int .i64 V1) (.int .i64 V2)
        have k0 : ((Y.setCell ⟨w.heap.size + 1 + 1, 0, none⟩ (.int .i64 V1)).setCell ⟨w.heap.size + 1 + 1, 1, none⟩ (.int .i64 V2)).cell? ⟨w.heap.size + 1 + 1, 0, none⟩ = some (.int .i64 V1) := hz2.cell 0 rfl
        have k1 : ((Y.setCell ⟨w.heap.size + 1 + 1, 0, none⟩ (.int .i64 V1)).setCell ⟨w.heap.size + 1 + 1, 1, none⟩ (.int .i64 V2)).cell? ⟨w.heap.size + 1 + 1, 1, none⟩ = some (.int .i64 V2) := hz2.cell 1 rfl
        have hbf : Below w.heap.size w ((Y.setCell ⟨w.heap.size + 1 + 1, 0, none⟩ (.int .i64 V1)).setCell ⟨w.heap.size + 1 + 1, 1, none⟩ (.int .i64 V2)) := (q5.setCell (by show w.heap.size ≤ w.heap.size + 2; omega) _).setCell (by show w.heap.size ≤ w.heap.size + 2; omega) _
        clear hz2 q2 q3 hbZ
        go_wp2
        refine bodyPost_ret (v := .agg #[.int .i64 V1, .int .i64 V2]) ?_ rfl ⟨by rw [HE.out.1, HE.out.2, HEM.out.1, HEM.out.2], hbf⟩
        simp [results, Try.results77, go_sem, k0, k1]
end Go.Proofs.Ytmkmnedojgigoaa
