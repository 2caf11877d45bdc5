import Derived.Test.YteianfbdhakhpaaTN
/-! Lists: the sort of the readings. -/
namespace Go.Proofs.Yteianfbdhakhpaa
set_option linter.unusedSimpArgs false
set_option linter.unusedVariables false
open Go Go.RowKit
open Go.Sort hiding Below

theorem own_free62 {w : World} {base : Nat} {e : TypeId} {size n c g : Nat} {xs : List Value} (h : w.ownsRow base e size (.slice (some ⟨g, 0, none⟩) n c) n xs) (j : Nat) : w.frozen? ⟨g, j, none⟩ = false := by
  rcases h.2 with ⟨h', _⟩ | ⟨g', cap, cur, h1, h2, h3, h4⟩
  · simp at h'
  · simp only [Value.slice.injEq, Option.some.injEq, Addr.mk.injEq, and_true, true_and] at h1
    obtain ⟨rfl, rfl⟩ := h1
    have hb : Bx w g cur e := h3
    exact hb.free j
theorem own_obj62 {w : World} {base : Nat} {e : TypeId} {size n c g : Nat} {xs : List Value} (h : w.ownsRow base e size (.slice (some ⟨g, 0, none⟩) n c) n xs) : base ≤ g ∧ n ≤ c ∧ c ≤ 9223372036854775807 ∧ ∃ cur, w.heap[g]? = some (.cells cur e (0, 0)) ∧ n * size ≤ cur.size := by
  have hl := h.1
  rcases h.2 with ⟨h', _⟩ | ⟨g', cap, cur, h1, h2, h3, h4, h5, h6, h7⟩
  · simp at h'
  · simp only [Value.slice.injEq, Option.some.injEq, Addr.mk.injEq, and_true, true_and] at h1
    obtain ⟨rfl, rfl⟩ := h1
    unfold maxLen at h5
    have h3' : Bx w g cur e := h3
    exact ⟨h2, h4, by omega, cur, h3', by rw [h6]; exact Nat.mul_le_mul_right _ h4⟩
theorem rs_pick {W : World} {B g c : Nat} {vs : List Value} {rs : List Rd} (hown : W.ownsRow B 62 2 (.slice (some ⟨g, 0, none⟩) rs.length c) rs.length vs) (hv : RvS B W vs rs) (i : Nat) :
    ∃ q : Rs W g, i < rs.length → vs[i * 2]? = some (.slice q.1.a1 q.1.n1 q.1.c1) ∧ vs[i * 2 + 1]? = some (.slice q.1.a2 q.1.l.length q.1.c2) ∧ rs[i]?.map (·.2) = some q.1.l := by
  by_cases hi : i < rs.length
  · obtain ⟨a1, c1, a2, c2, h1, h2, h3, h4⟩ := hv.2 i rs[i] (List.getElem?_eq_getElem hi)
    obtain ⟨_, _, _, cur, ho, _⟩ := own_obj62 hown
    refine ⟨⟨⟨a1, rs[i].1.length, c1, a2, c2, rs[i].2⟩, h4.mono (Nat.zero_le _), fun ad e hg => ?_⟩, fun _ => ⟨h1, h2, by rw [List.getElem?_eq_getElem hi]; rfl⟩⟩
    obtain ⟨vs', z', h5⟩ := h4.t ad e
    rw [hg, ho] at h5
    simp at h5
  · exact ⟨default, fun h => absurd h hi⟩
theorem heap_sortK {W : World} {g k m : Nat} {α : Type} [Inhabited α] (enc : α → List Value) (d : Array α) (os : Array Obj) (j : Nat) (hj : j < W.heap.size) (hne : j ≠ g) : (sortWorldK enc k W g 0 m d os).heap[j]? = W.heap[j]? := by
  show ((W.heap.modify g _) ++ os)[j]? = _
  rw [Array.getElem?_append_left (by simpa using hj), Array.getElem?_modify, if_neg (by omega)]
theorem obj_sortK {W : World} {g k m : Nat} {α : Type} [Inhabited α] (enc : α → List Value) (d : Array α) (os : Array Obj) {cur : Array Value} {e : TypeId} (ho : W.heap[g]? = some (.cells cur e (0, 0))) :
    ∃ cur', cur'.size = cur.size ∧ (sortWorldK enc k W g 0 m d os).heap[g]? = some (.cells cur' e (0, 0)) := by
  have hl := (Array.getElem?_eq_some_iff.1 ho).1
  refine ⟨putCells id 0 (flatK enc k d) cur, by simp [putCells], ?_⟩
  show ((W.heap.modify g _) ++ os)[g]? = _
  rw [Array.getElem?_append_left (by simpa using hl), Array.getElem?_modify, if_pos rfl, ho]
  rfl
theorem size_sortK {W : World} {g k m : Nat} {α : Type} [Inhabited α] (enc : α → List Value) (d : Array α) (os : Array Obj) : W.heap.size ≤ (sortWorldK enc k W g 0 m d os).heap.size := by
  show _ ≤ ((W.heap.modify g _) ++ os).size
  simp
theorem below_sortK {W : World} {B g k m : Nat} (hB : B ≤ g) (hg : g < W.heap.size) {α : Type} [Inhabited α] (enc : α → List Value) (d : Array α) (os : Array Obj) : Below B W (sortWorldK enc k W g 0 m d os) :=
  ⟨rfl, rfl, rfl, size_sortK enc d os, fun j hj => heap_sortK enc d os j (by omega) (by omega)⟩
theorem flat2 {α : Type} [Inhabited α] (enc : α → List Value) (d : Array α) {i : Nat} (hi : i < d.size) {x y : Value} (h : enc d[i]! = [x, y]) : (flatK enc 2 d)[i * 2]! = x ∧ (flatK enc 2 d)[i * 2 + 1]! = y := by
  rw [get_flatK _ _ _ _ (by omega), get_flatK _ _ _ _ (by omega), show i * 2 / 2 = i by omega, show (i * 2 + 1) / 2 = i by omega, show i * 2 % 2 = 0 by omega, show (i * 2 + 1) % 2 = 1 by omega, h]
  exact ⟨rfl, rfl⟩
/-- What the sort and CompactFunc make of a row of readings. -/
theorem Sort_any {W : World} {B g c : Nat} {vs : List Value} {rs : List Rd} (hl : rs.length ≤ 15625) (hown : W.ownsRow B 62 2 (.slice (some ⟨g, 0, none⟩) rs.length c) rs.length vs) (hv : RvS B W vs rs) :
    Calls Try.prog 62 #[.slice (some ⟨g, 0, none⟩) rs.length c, .func (.func 60) #[] #[]] W fun e w' => e = .returned (.tuple #[]) ∧ Below B W w' ∧ Calls Try.prog 63 #[.slice (some ⟨g, 0, none⟩) rs.length c, .func (.func 64) #[] #[]] w' (CfP B w' (dN (rs.map (·.2)))) := by
  obtain ⟨hBg, hnc, hcm, cur, ho, hcs⟩ := own_obj62 hown
  have hgl : g < W.heap.size := (Array.getElem?_eq_some_iff.1 ho).1
  let Q : Nat → Rs W g := fun i => Classical.choose (rs_pick hown hv i)
  have hQ : ∀ i, i < rs.length → vs[i * 2]? = some (.slice (Q i).1.a1 (Q i).1.n1 (Q i).1.c1) ∧ vs[i * 2 + 1]? = some (.slice (Q i).1.a2 (Q i).1.l.length (Q i).1.c2) ∧ rs[i]?.map (·.2) = some (Q i).1.l := fun i => Classical.choose_spec (rs_pick hown hv i)
  obtain ⟨d, hd⟩ : ∃ d : Array (Rs W g), d = ((List.range rs.length).map Q).toArray := ⟨_, rfl⟩
  have hds : d.size = rs.length := by rw [hd]; simp
  have hdi : ∀ i, i < rs.length → d[i]! = Q i := fun i hi => by
    rw [getElem!_pos d i (by omega)]
    simp [hd]
  have hdl : d.toList.map (fun q => q.1.l) = rs.map (·.2) := by
    apply List.ext_getElem?
    intro i
    rw [List.getElem?_map, List.getElem?_map]
    by_cases hi : i < rs.length
    · rw [(hQ i hi).2.2, hd]; simp [hi]
    · rw [List.getElem?_eq_none (by simp; omega), List.getElem?_eq_none (by omega)]; rfl
  have hH : HoldsK Rs.enc 2 W g 0 d := fun j hj => by
    rw [size_flatK] at hj
    refine ⟨?_, own_free62 hown _⟩
    have hi : j / 2 < rs.length := by omega
    have hf := flat2 Rs.enc d (i := j / 2) (by omega) (x := .slice (Q (j / 2)).1.a1 (Q (j / 2)).1.n1 (Q (j / 2)).1.c1) (y := .slice (Q (j / 2)).1.a2 (Q (j / 2)).1.l.length (Q (j / 2)).1.c2) (by rw [hdi _ hi]; rfl)
    have hq := hQ _ hi
    rw [Nat.zero_add, World.ownsRow.cellAt hown j (by omega)]
    have hm : j = j / 2 * 2 ∨ j = j / 2 * 2 + 1 := by omega
    rcases hm with hm | hm
    · rw [hm, show j / 2 * 2 / 2 = j / 2 by omega] at *
      rw [hf.1]; exact hq.1
    · rw [← hm] at hf hq
      rw [hf.2]; exact hq.2.1
  have hlay : CmpLays Try.prog 60 #[] Rs.enc 2 (fun x y : Rs W g => cmpL x.1.l y.1.l) g 0 d.size W := fun m os dk hdk x y => by
    have hx := Rgd.of x.2 (size_sortK Rs.enc dk os) (fun k hk hne => heap_sortK (k := 2) (m := m) Rs.enc dk os k hk hne)
    have hy := Rgd.of y.2 (size_sortK Rs.enc dk os) (fun k hk hne => heap_sortK (k := 2) (m := m) Rs.enc dk os k hk hne)
    exact Lists1_any x.1 y.1 _ hx.1.i hy.1.i
  have eg : ∀ args w, (callFunc 60 args).run Try.prog w = .ok (.enter 60 args) w := enters_of Try.func60 (by kernel_rfl) rfl
  have hcon := AnyQ.slices_SortFunc Try.sortRd 2 Try.isAgg62 Try.sizeOf62 Rs.enc (fun _ => rfl) (fun x v hv => by simp [Rs.enc, Rq.enc] at hv; rcases hv with rfl | rfl <;> rfl) (fun x y : Rs W g => cmpL x.1.l y.1.l) (cmpL_swo (fun x : Rs W g => x.1.l)) 60 #[] g 0 c d W eg hlay hH hgl (by omega)
  change Calls Try.prog 62 _ _ _ at hcon
  rw [hds] at hcon
  refine hcon.mono ?_
  rintro e w' ⟨rfl, d', m, os, hp, hs, rfl⟩
  have hps : d'.size = rs.length := hp.1.trans hds
  have hbl := below_sortK (k := 2) (m := m) hBg hgl Rs.enc d' os
  refine ⟨rfl, hbl, ?_⟩
  have hH' := holdsK_sortWorldK_c Rs.enc 2 W g 0 d d' m os hH hgl hp.1
  obtain ⟨cur', hcs', ho'⟩ := obj_sortK (k := 2) (m := m) Rs.enc d' os ho
  have hC : Cpt B (sortWorldK Rs.enc 2 W g 0 m d' os) (sortWorldK Rs.enc 2 W g 0 m d' os) g rs.length 0 (fun i => d'[i]!.1) := by
    refine ⟨Below.refl _ _, ⟨cur', ho', by omega, fun i _ hi => ?_⟩, fun i hi => Rgd.of (d'[i]!).2 (size_sortK Rs.enc d' os) (fun k hk hne => heap_sortK Rs.enc d' os k hk hne)⟩
    have hf := flat2 Rs.enc d' (i := i) (by omega) (x := .slice (d'[i]!).1.a1 (d'[i]!).1.n1 (d'[i]!).1.c1) (y := .slice (d'[i]!).1.a2 (d'[i]!).1.l.length (d'[i]!).1.c2) rfl
    have e1 := (hH' (i * 2) (by rw [size_flatK]; omega)).1
    have e2 := (hH' (i * 2 + 1) (by rw [size_flatK]; omega)).1
    rw [hf.1, Nat.zero_add] at e1
    rw [hf.2, Nat.zero_add] at e2
    simp only [World.cell?, ho'] at e1 e2
    exact ⟨e1, e2⟩
  have hk := kp_dN (fun i => (d'[i]!).1.l) rs.length (fun i j hij hj hlt => by
    have := hs i j (Nat.zero_le _) hij (by omega)
    simp only [ltOf, decide_eq_false_iff_not] at this
    exact this hlt)
  have hl2 : (List.range rs.length).map (fun i => (d'[i]!).1.l) = d'.toList.map (fun q => q.1.l) := by
    apply List.ext_getElem
    · simp [hps]
    · intro i h1 h2
      simp at h1
      simp [getElem!_pos d' i (by omega)]
  have hpm : (d'.toList.map (fun q => q.1.l)).Perm (rs.map (·.2)) := by
    rw [← hdl]
    have h3 := hp.2.2
    have e1 : d'.extract 0 rs.length = d' := by rw [← hps]; simp
    have e2 : d.extract 0 rs.length = d := by rw [← hds]; simp
    rw [e1, e2] at h3
    exact h3.map _
  rw [hl2, dN_perm hpm] at hk
  have := CompactFunc_any B g rs.length c (fun i => d'[i]!.1) _ hBg hC hnc hcm
  rw [hk] at this
  exact this
/-- How many lists a train has. -/
def lsN (X : Pu) : Nat := if erX X true = 0 then dN ((RS X).map (·.2)) else 0
set_option maxRecDepth 100000 in
set_option maxHeartbeats 2000000 in
theorem Lists_any (aT : Option Addr) (cT : Nat) (X : Pu) (w : World) (hX : Ints w aT X.ts) : Calls Try.prog 26 #[.agg #[.int .i64 X.l, .int .i64 X.n, .int .i64 X.pi, .int .i64 X.sl, .int .i64 X.ga, .int .i64 X.pa, .int .i64 X.sp, .slice aT X.ts.length cT]] w fun e w' => e = .returned (.tuple #[.int .i64 (lsN X), .int .i64 (erX X true)]) ∧ Below w.heap.size w w' := by
  obtain ⟨W, hW, hb, _, x0⟩ := boxes1 w #[.int .i64 X.l, .int .i64 X.n, .int .i64 X.pi, .int .i64 X.sl, .int .i64 X.ga, .int .i64 X.pa, .int .i64 X.sp, .slice aT X.ts.length cT] 24
  have hk1 := ask_bad aT cT X true W (hX.below hb (Nat.le_refl _))
  have hk2 := ask_ok aT cT X true W (hX.below hb (Nat.le_refl _))
  have e1 : erO (chkE X true) (rdL X X.sp.toNat) = erX X true := rfl
  have e2 : rdL X X.sp.toNat = RS X := rfl
  have hz := fun h => erO_zero (X := X) (o := true) h
  have hln := fun h => erO_len (X := X) h
  rw [e1] at hk1 hk2 hz
  rw [e2] at hk2 hz hln
  have HM := hid (show lsN X = if erX X true = 0 then dN ((RS X).map (·.2)) else 0 from rfl)
  generalize lsN X = M at *
  generalize erX X true = er at *
  generalize RS X = rs at *
  clear e1 e2
  generalize X.ts.length = n at *
  clear hX
  have c0 := x0.cell 0 rfl; have c1 := x0.cell 1 rfl; have c2 := x0.cell 2 rfl; have c3 := x0.cell 3 rfl; have c4 := x0.cell 4 rfl; have c5 := x0.cell 5 rfl; have c6 := x0.cell 6 rfl; have c7 := x0.cell 7 rfl
  by_cases he : er = 0
  · have hc := hk2 he
    have HR := hid (show M = dN (rs.map (·.2)) by rw [HM.out, if_pos he])
    have HE := hid he
    have hnl := hln (hz he).1
    have hpos : 0 < rs.length := List.length_pos_iff.2 (hz he).2.2
    have hws := hb.size
    clear hk1 hk2 HM he hz hln
    go_enter Try.func26, Try.ntmps26
    go_wp2_with fail
    refine hc.mono ?_
    rintro e V ⟨hb1, a, c, vs, rfl, hown, hrv⟩
    replace hb := hb.trans (hb1.mono hb.size)
    obtain ⟨g, cap, hf⟩ : ∃ g cap, (Value.slice a rs.length c) = .slice (some ⟨g, 0, none⟩) rs.length cap := Go.Joins.ownsRow_form hown hpos
    simp only [Value.slice.injEq, true_and] at hf
    obtain ⟨rfl, rfl⟩ := hf
    have hs := Sort_any hnl hown hrv
    obtain ⟨nl, hnlE⟩ : ∃ nl, nl = rs.length := ⟨_, rfl⟩
    rw [← hnlE] at hs ⊢
    rw [← HR.out] at hs
    clear hown hrv hb1 hc hnl hpos hnlE HR hW c0 c1 c2 c3 c4 c5 c6 c7 x0
    go_wp2_with fail
    refine hs.mono ?_
    rintro e V2 ⟨rfl, hb2, hcf⟩
    go_wp2_with fail
    refine hcf.mono ?_
    rintro e V3 ⟨hb3, a3, c3, rfl⟩
    replace hb := hb.trans (((hb2.trans hb3).mono hws))
    go_wp2
    go_ret2
    exact ⟨by rw [HE.out]; rfl, hb⟩
  · have hc := hk1 he
    have HR := hid (show M = 0 by rw [HM.out, if_neg he])
    clear hk1 hk2 HM hz hln
    go_enter Try.func26, Try.ntmps26
    go_wp2_with fail
    refine hc.mono ?_
    rintro e V ⟨rfl, hb1⟩
    replace hb := hb.trans (hb1.mono hb.size)
    clear hb1 hc hW c0 c1 c2 c3 c4 c5 c6 c7 x0
    go_wp2
    go_ret2
    exact ⟨by rw [HR.out]; rfl, hb⟩
end Go.Proofs.Yteianfbdhakhpaa
