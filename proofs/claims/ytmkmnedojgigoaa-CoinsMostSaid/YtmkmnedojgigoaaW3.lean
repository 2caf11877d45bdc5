import Derived.Test.YtmkmnedojgigoaaN4
import Derived.Test.YtmkmnedojgigoaaK3
import Derived.Lib.SmallJoins
namespace Go.Proofs.Ytmkmnedojgigoaa
open Go.RowKit

/-- How many acts put in a coin of a kind. -/
def cntA (k : Nat) : List Int → Nat
  | [] => 0
  | x :: xs => (if x = (k : Int) then 1 else 0) + cntA k xs
theorem cntA_app (k : Nat) : ∀ xs ys : List Int, cntA k (xs ++ ys) = cntA k xs + cntA k ys
  | [], ys => by simp [cntA]
  | x :: xs, ys => by
    rw [List.cons_append, cntA, cntA, cntA_app k xs ys]; omega
theorem cntA_le (k : Nat) : ∀ xs : List Int, cntA k xs ≤ xs.length
  | [] => Nat.le_refl _
  | x :: xs => by
    have := cntA_le k xs
    rw [cntA, List.length_cons]
    split <;> omega
/-- The purse that acts put in. -/
def bagA (n : Nat) (xs : List Int) : List Int := (List.range n).map fun k => (cntA k xs : Int)
theorem bagA_len (n : Nat) (xs : List Int) : (bagA n xs).length = n := by simp [bagA]
theorem bagA_next (n : Nat) (xs : List Int) : bagA (n + 1) xs = bagA n xs ++ [(cntA n xs : Int)] := by simp [bagA, List.range_succ]
theorem bagA_mem {n : Nat} {xs : List Int} {x : Int} (h : x ∈ bagA n xs) : 0 ≤ x ∧ x ≤ xs.length := by
  simp only [bagA, List.mem_map] at h
  obtain ⟨k, _, rfl⟩ := h
  have := cntA_le k xs
  omega

set_option maxRecDepth 100000 in
set_option maxHeartbeats 1000000 in
theorem bag_any (r : Int) (an ac : Option Addr) (cn cc : Nat) (N C : List Int) (a : Option Addr) (ca : Nat) (xs : List Int) (w : World) (_hC : Ints w ac C) (hX : Ints w a xs) (hc : C.length ≤ 40) (hl : xs.length ≤ 40) :
    Calls Try.prog 50 #[.agg #[.int .i64 r, .slice an N.length cn, .slice ac C.length cc], .slice a xs.length ca] w (RowPost (bagA C.length xs) w) := by
  obtain ⟨j0, hj, jz0, jz1, jz2⟩ := info_parts info3
  obtain ⟨W, hW, hb, hs, x0⟩ := boxes1 w #[.int .i64 r, .slice an N.length cn, .slice ac C.length cc] 24
  have hX0 := hX
  clear _hC hX
  have Hs := hid hs; clear hs
  generalize hcn : C.length = cl at *
  clear hcn
  go_enter Try.func50, Try.ntmps50
  go_wp2
  clear hW
  go_loopw [5, 6] (fun v5 v6 wr => ∃ (n : Nat), n ≤ cl ∧ v6 = .int .i64 (n : Int) ∧ wr.ownsRow (w.heap.size + 1) 3 1 v5 n ((bagA n xs).map (Value.int .i64)) ∧ Below w.heap.size w wr ∧ Bx wr w.heap.size #[.int .i64 r, .slice an N.length cn, .slice ac cl cc] 24) (fun _ v6 _ => cl - (intOf v6).toNat)
  case atStart => exact ⟨0, Nat.zero_le _, rfl, World.ownsRow_nil _ _ _ _, hb, x0⟩
  case round =>
    clear hb x0
    obtain ⟨n, hn, rfl, hown, hb, x0⟩ := hrel
    obtain ⟨wo, rfl⟩ : ∃ wo : World, wo = wr := ⟨_, rfl⟩
    have c0 := x0.cell 0 rfl; have c1 := x0.cell 1 rfl; have c2 := x0.cell 2 rfl
    have hlt0 := x0.lt
    by_cases hlt : n < cl
    · have hlI : (n : Int) < (cl : Int) := by omega
      go_wp2
      go_loopw [7, 8] (fun v7 v8 wi => ∃ (j : Nat), j ≤ xs.length ∧ v8 = .int .i64 j ∧ v7 = .int .i64 (cntA n (xs.take j) : Nat) ∧ Qd wo wi) (fun _ v8 _ => xs.length - (intOf v8).toNat)
      case atStart => exact ⟨0, Nat.zero_le _, rfl, rfl, Qd.refl _⟩
      case round =>
        obtain ⟨j, hj', rfl, rfl, hqd⟩ := hrel
        have hb1 := hqd.below wo.heap.size
        replace hown := own_below hown hb1
        have hcl := cntA_le n (xs.take j)
        rw [List.length_take] at hcl
        obtain ⟨q, hq⟩ : ∃ q, q = cntA n (xs.take j) := ⟨_, rfl⟩
        rw [← hq] at hcl ⊢
        have Hq := hid hq; clear hq
        by_cases hjl : j < xs.length
        · have hX := hX0.below (hb.trans (hb1.mono hb.size)) (Nat.le_refl _)
          obtain ⟨ba, off, x, rfl, hbs, hcx, _, _, hx, _⟩ := hX.at hjl
          have htk : cntA n (xs.take (j + 1)) = q + if x = (n : Int) then 1 else 0 := by
            rw [List.take_add_one, hx.out, Option.toList_some, cntA_app, ← Hq.out]; simp [cntA]
          have Htk := hid htk
          clear htk hx
          by_cases hxn : x = (n : Int)
          · subst hxn
            rw [if_pos rfl] at Htk
            go_wp2
            go_roundw
            case rel => exact ⟨j + 1, by omega, by go_num, by rw [Htk.out]; go_num, hqd⟩
            case measure => simp [intOf]; omega
          · rw [if_neg hxn] at Htk
            have hB : (x == (n : Int)) = false := by simp [hxn]
            clear hxn
            go_wp2
            go_roundw
            case rel => exact ⟨j + 1, by omega, by go_num, by rw [Htk.out]; rfl, hqd⟩
            case measure => simp [intOf]; omega
        · obtain rfl : j = xs.length := by omega
          have hS : bagA (n + 1) xs = bagA n xs ++ [(q : Int)] := by rw [bagA_next, Hq.out, List.take_of_length_le (Nat.le_refl _)]
          have HS := hid hS
          clear hS
          replace hb := hb.trans (hb1.mono hb.size)
          replace x0 := x0.below hb1
          clear hb1 c0 c1 c2
          have hl0 := x0.lt
          go_wp2_with (first | (at_builtin; go_must (refine wpList_append_own _ rfl _ _ 22 rfl (w.heap.size + 1) 3 j0 (.int .i64 0) 1 8 under22 hj jz0 jz1 jz2 rfl (by decide) _ _ _ rfl (hown.alloc _) ⟨wr.heap.size, 0, none⟩ 1 1 [.int .i64 (q : Int)] rfl rfl (cell_one_new _ _ _) (ints_oneCell .i64 [(q : Int)]) (by unfold maxLen; omega) (by omega) (by simp; omega) ?_); intro v' w1 hown' hgrow _))
          have hge := own_ge hown
          have hb' : Below w.heap.size w w1 := (hb.alloc (by omega) _).grown hgrow (by simp; omega) (fun k hk => by have := hge k hk; omega)
          have x0' := (x0.alloc (.cells #[.int .i64 (q : Int)] 3)).gb hgrow (fun k hk => by have := hge k hk; omega)
          clear hown hgrow x0 hb hge
          go_wp2
          go_roundw
          case rel => exact ⟨n + 1, by omega, by go_num, by rw [HS.out]; simpa using hown', hb', x0'⟩
          case measure => simp [intOf]; omega
    · have hlI : (cl : Int) ≤ (n : Int) := by omega
      go_wp2
      go_ret
      obtain rfl : n = cl := by omega
      have hl2 := bagA_len n xs
      have hown2 : wo.ownsRow (w.heap.size + 1) 3 1 u5 (bagA n xs).length ((bagA n xs).map (Value.int .i64)) := by rw [hl2]; exact hown
      obtain ⟨a, ca, rfl, hi⟩ := Ints.of_own hown2 (by omega) (fun x hx => by have := bagA_mem hx; omega)
      exact ⟨hb, a, ca, rfl, hi, fun x hx => by have := own_new hown2 x hx; omega⟩
end Go.Proofs.Ytmkmnedojgigoaa
namespace Go.Proofs.Ytmkmnedojgigoaa
open Go.RowKit

/-- How many plays acts buy. -/
def buyL (R : Nat) (N C : List Int) : St → Int → List Int → Int
  | _, n, [] => n
  | s, n, x :: xs => buyL R N C (act R N C s x).1 (n + (((act R N C s x).1.c : Int) - (s.c : Int)) + (if (act R N C s x).2 then 1 else 0)) xs

set_option maxRecDepth 100000 in
set_option maxHeartbeats 4000000 in
theorem buys_any (R : Nat) (an ac : Option Addr) (cn cc : Nat) (N C : List Int) (a : Option Addr) (ca : Nat) (xs : List Int) (w : World) (hN : Ints w an N) (hC : Ints w ac C) (hX : Ints w a xs) (hv : Vw R N C) (hall : xs.all (isActB C) = true) (hlen : xs.length ≤ 40) :
    Calls Try.prog 36 #[.agg #[.int .i64 (R : Int), .slice an N.length cn, .slice ac C.length cc], .slice a xs.length ca] w fun e w' => e = .returned (.int .i64 (buyL R N C ⟨0, 0⟩ 0 xs)) ∧ Below w.heap.size w w' := by
  have r1 := hv.r1
  have hN0 := hN; have hC0 := hC; have hX0 := hX
  obtain ⟨W, hW, hb, hs, x0⟩ := boxes1 w #[.int .i64 (R : Int), .slice an N.length cn, .slice ac C.length cc] 24
  have x1 := Bx.new W #[.int .i64 0, .int .i64 0] 26
  have hb1 := below_one (w := W) (.cells #[.int .i64 0, .int .i64 0] 26)
  replace x0 := x0.below hb1
  replace hb := hb.trans (hb1.mono hb.size)
  rw [hs] at x1
  clear hN hC hX hb1
  go_enter Try.func36, Try.ntmps36
  go_wp2
  generalize W.alloc _ = W1 at *
  (try rw [hs])
  clear hW hs
  go_loopw [6, 7] (fun s6 s7 wr => ∃ (k : Nat) (s : St) (n : Int), k ≤ xs.length ∧ s7 = .int .i64 k ∧ s6 = .int .i64 n ∧ s.p < R ∧ s.c ≤ 4000 * k ∧ -200000 * (k : Int) ≤ n ∧ n ≤ 200000 * (k : Int) ∧ buyL R N C ⟨0, 0⟩ 0 xs = buyL R N C s n (xs.drop k) ∧ Below w.heap.size w wr ∧ Bx wr w.heap.size #[.int .i64 (R : Int), .slice an N.length cn, .slice ac C.length cc] 24 ∧ Bx wr (w.heap.size + 1) #[.int .i64 s.p, .int .i64 s.c] 26) (fun _ s7 _ => xs.length - (intOf s7).toNat)
  case atStart => exact ⟨0, ⟨0, 0⟩, 0, Nat.zero_le _, rfl, rfl, by show 0 < R; omega, Nat.le_refl _, by omega, by omega, rfl, hb, x0, x1⟩
  case round =>
    clear hb x0 x1
    obtain ⟨k, s, n, hk', rfl, rfl, hsp, hsc, hn1, hn2, hn, hb, x0, x1⟩ := hrel
    have Hn := hid hn; clear hn
    by_cases hlt : k < xs.length
    · obtain ⟨b, off, x, hae, hbs, hcx, _, _, hx, hd⟩ := (hX0.below hb (Nat.le_refl _)).at hlt
      have hbw : b < w.heap.size := by
        obtain ⟨b2, off2, hae2, hb2, _⟩ := hX0.2.2 k hlt
        rw [hae] at hae2; cases hae2; exact hb2
      subst hae
      have hact := List.all_eq_true.1 hall x (List.mem_of_getElem? hx.out)
      have hbd := act_bd (N := N) hv hact hsp
      have ac1 : ∀ W : World, Ints W an N → Ints W ac C → Calls Try.prog 66 #[.agg #[.int .i64 (R : Int), .slice an N.length cn, .slice ac C.length cc], .agg #[.int .i64 s.p, .int .i64 s.c], .int .i64 x] W fun e w' => e = .returned (.tuple #[.agg #[.int .i64 (act R N C s x).1.p, .int .i64 (act R N C s x).1.c], .bool (act R N C s x).2]) ∧ Below W.heap.size W w' := fun W h1 h2 =>
        act_any R an ac cn cc N C s x W h1 h2 hv hsp (by omega) hact
      have hr : buyL R N C s n (xs.drop k) = buyL R N C (act R N C s x).1 (n + (((act R N C s x).1.c : Int) - (s.c : Int)) + (if (act R N C s x).2 then 1 else 0)) (xs.drop (k + 1)) := by rw [hd.out]; rfl
      obtain ⟨⟨⟨p1, c1⟩, mb⟩, hst⟩ : ∃ t, t = act R N C s x := ⟨_, rfl⟩
      rw [← hst] at hbd ac1 hr
      have HR := hid hr
      obtain ⟨hp1l, hc1l⟩ := hbd
      dsimp only at hp1l hc1l ac1
      clear hr hst hact hx hd
      have hkI : (k : Int) < (xs.length : Int) := by omega
      have hk0 : (0 : Int) ≤ (k : Int) := by omega
      go_wp2_with fail
      replace x0 := x0.drew; replace x1 := x1.drew; replace hb := hb.drew
      replace hcx := Below.keep (Below.refl _ _).drew hcx
      refine wp_region_head 12 (fun w' => Bx w' w.heap.size #[.int .i64 (R : Int), .slice an N.length cn, .slice ac C.length cc] 24 ∧ Bx w' (w.heap.size + 1) #[.int .i64 s.p, .int .i64 s.c] 26 ∧ w'.cell? ⟨b, off + k, none⟩ = some (.int .i64 x)) (by kernel_rfl) rfl ?_
      generalize World.drew _ = Y0 at *
      refine HeadAt.take (i := 0) (.agg #[.int .i64 (R : Int), .slice an N.length cn, .slice ac C.length cc]) rfl (by kernel_rfl) (.inl ⟨rfl, fun w' z => ?_⟩) ⟨x0, x1, hcx⟩ ?_
      · (have y := z.1; have z0 := y.cell 0 rfl; have z1 := y.cell 1 rfl; have z2 := y.cell 2 rfl; simp [go_sem, z0, z1, z2])
      refine HeadAt.take (i := 1) (.agg #[.int .i64 s.p, .int .i64 s.c]) rfl (by kernel_rfl) (.inl ⟨rfl, fun w' z => ?_⟩) ⟨x0, x1, hcx⟩ ?_
      · (have y := z.2.1; have z0 := y.cell 0 rfl; have z1 := y.cell 1 rfl; simp [go_sem, z0, z1])
      refine HeadAt.take (i := 2) (.slice (some ⟨b, off, none⟩) xs.length ca) rfl (by kernel_rfl) (.inl ⟨rfl, fun _ _ => by simp [go_sem]⟩) ⟨x0, x1, hcx⟩ ?_
      refine HeadAt.take (i := 3) (.int .i64 k) rfl (by kernel_rfl) (.inl ⟨rfl, fun _ _ => by simp [go_sem]⟩) ⟨x0, x1, hcx⟩ ?_
      refine HeadAt.take (i := 4) (.pointer (some ⟨b, off + k, none⟩)) rfl (by kernel_rfl) (.inl ⟨rfl, fun w' z => ?_⟩) ⟨x0, x1, hcx⟩ ?_
      · simp [go_sem, hlt]
      refine HeadAt.take (i := 5) (.int .i64 x) rfl (by kernel_rfl) (.inl ⟨rfl, fun w' z => ?_⟩) ⟨x0, x1, hcx⟩ ?_
      · (have y := z.2.2; simp [go_sem, y])
      refine HeadAt.two (i := 6) (j := 10) rfl rfl (by kernel_rfl) ?_ ?_
      · skip
        generalize hK : Upto _ _ = K0
        (try simp only [Act.put, List.getElem_toArray, List.getElem_cons_succ, List.getElem_cons_zero, List.setIfInBounds_toArray, List.set_cons_succ, List.set_cons_zero])
        go_wp2_with fail
        refine (ac1 _ (hN0.below hb (Nat.le_refl _)) (hC0.below hb (Nat.le_refl _))).mono ?_
        rintro e Y3 ⟨rfl, hb1⟩
        replace hcx := Below.keep hb1 hcx
        replace x0 := x0.below hb1; replace x1 := x1.below hb1; replace hb := hb.trans (hb1.mono hb.size); clear hb1
        go_wp2_with fail
        subst hK
        refine ⟨⟨x0, x1, hcx⟩, ?_⟩
        refine HeadAt.take (i := 7) (.tuple #[.agg #[.int .i64 p1, .int .i64 c1], .bool mb]) rfl (by kernel_rfl) (.inl ⟨rfl, fun _ _ => by simp [go_sem]⟩) ⟨x0, x1, hcx⟩ ?_
        refine HeadAt.take (i := 8) (.agg #[.int .i64 p1, .int .i64 c1]) rfl (by kernel_rfl) (.inl ⟨rfl, fun _ _ => by simp [go_sem]⟩) ⟨x0, x1, hcx⟩ ?_
        refine HeadAt.take (i := 9) (.bool mb) rfl (by kernel_rfl) (.inl ⟨rfl, fun _ _ => by simp [go_sem]⟩) ⟨x0, x1, hcx⟩ ?_
        refine HeadAt.one (i := 10) rfl (by kernel_rfl) ?_
        generalize hK : Upto _ _ = K0
        (try simp only [Act.put, List.getElem_toArray, List.getElem_cons_succ, List.getElem_cons_zero, List.setIfInBounds_toArray, List.set_cons_succ, List.set_cons_zero])
        have hb1 := below_one (w := Y3) (.cells #[.int .i64 0, .int .i64 0] 26)
        have xg := Bx.new Y3 #[.int .i64 0, .int .i64 0] 26
        have lg := x1.lt
        replace hcx := Below.keep hb1 hcx
        go_wp2_with fail
        replace x0 := x0.below hb1; replace x1 := x1.below hb1; replace hb := hb.trans (hb1.mono hb.size); clear hb1
        generalize Y3.alloc (.cells #[.int .i64 0, .int .i64 0] 26) = Y4 at *
        generalize Y3.heap.size = g at *
        subst hK
        refine ⟨⟨x0, x1, hcx⟩, ?_⟩
        refine HeadAt.one (i := 11) rfl (by kernel_rfl) ?_
        generalize hK : Upto _ _ = K0
        (try simp only [List.getElem_toArray, List.getElem_cons_succ, List.getElem_cons_zero])
        have g0 := xg.cell 0 rfl; have g1 := xg.cell 1 rfl
        have f0 := xg.free 0; have f1 := xg.free 1
        have hcg : ∀ v1 v2 : Value, ∃ Z, (Y4.setCell ⟨g, 0, none⟩ v1).setCell ⟨g, 1, none⟩ v2 = Z ∧ Bx Z g #[v1, v2] 26 ∧ Bx Z w.heap.size #[.int .i64 (R : Int), .slice an N.length cn, .slice ac C.length cc] 24 ∧ Bx Z (w.heap.size + 1) #[.int .i64 s.p, .int .i64 s.c] 26 ∧ Below w.heap.size w Z ∧ Z.cell? ⟨b, off + k, none⟩ = some (.int .i64 x) := fun v1 v2 =>
          ⟨_, rfl, xg.set2 v1 v2, (x0.other (a := ⟨g, 0, none⟩) (by show w.heap.size ≠ g; omega) v1).other (a := ⟨g, 1, none⟩) (by show w.heap.size ≠ g; omega) v2, (x1.other (a := ⟨g, 0, none⟩) (by show w.heap.size + 1 ≠ g; omega) v1).other (a := ⟨g, 1, none⟩) (by show w.heap.size + 1 ≠ g; omega) v2, (hb.setCell (by show w.heap.size ≤ g; omega) v1).setCell (by show w.heap.size ≤ g; omega) v2,
            by rw [World.cell?_setCell_other _ _ _ _ (fun e => by injection e with e; omega), World.cell?_setCell_other _ _ _ _ (fun e => by injection e with e; omega)]; exact hcx⟩
        obtain ⟨Z, hZ, xgp, x0p, x1p, hbp, hcxp⟩ := hcg (.int .i64 p1) (.int .i64 c1)
        clear hcg
        go_wp2_with fail
        subst hK
        refine ⟨⟨x0p, x1p, hcxp⟩, ?_⟩
        clear x0 x1 xg hb hcx hZ g0 g1 f0 f1
        refine HeadAt.done (by kernel_rfl) ?_
        (try simp only [List.drop_succ_cons, List.drop_zero])
        have g0 := xgp.cell 0 rfl; have g1 := xgp.cell 1 rfl
        have d0 := x1p.cell 0 rfl; have d1 := x1p.cell 1 rfl
        have f0 := x1p.free 0; have f1 := x1p.free 1
        go_wp2_with fail
        refine NoPanic.normal ?_
        have hst : ∃ Y, (Z.setCell ⟨w.heap.size + 1, 0, none⟩ (.int .i64 p1)).setCell ⟨w.heap.size + 1, 1, none⟩ (.int .i64 c1) = Y ∧ Bx Y w.heap.size #[.int .i64 (R : Int), .slice an N.length cn, .slice ac C.length cc] 24 ∧ Bx Y (w.heap.size + 1) #[.int .i64 p1, .int .i64 c1] 26 ∧ Below w.heap.size w Y :=
          ⟨_, rfl, (x0p.other (a := ⟨w.heap.size + 1, 0, none⟩) (by show w.heap.size ≠ w.heap.size + 1; omega) _).other (a := ⟨w.heap.size + 1, 1, none⟩) (by show w.heap.size ≠ w.heap.size + 1; omega) _, x1p.set2 _ _, (hbp.setCell (by show w.heap.size ≤ w.heap.size + 1; omega) _).setCell (by show w.heap.size ≤ w.heap.size + 1; omega) _⟩
        obtain ⟨Y, hY, y0, y1, hbY⟩ := hst
        clear xgp x0p x1p hbp hcxp
        cases mb
        · go_wp2_with fail
          clear hY
          go_roundw
          case rel => exact ⟨k + 1, ⟨p1, c1⟩, n + ((c1 : Int) - (s.c : Int)), by omega, by go_num, by go_num, hp1l, by show c1 ≤ _; omega, by omega, by omega, by rw [Hn.out, HR.out]; simp, hbY, y0, y1⟩
          case measure => simp [intOf]; omega
        · go_wp2_with fail
          clear hY
          go_roundw
          case rel => exact ⟨k + 1, ⟨p1, c1⟩, n + ((c1 : Int) - (s.c : Int)) + 1, by omega, by go_num, by go_num, hp1l, by show c1 ≤ _; omega, by omega, by omega, by rw [Hn.out, HR.out]; simp, hbY, y0, y1⟩
          case measure => simp [intOf]; omega
      · skip
        generalize hK : Upto _ _ = K0
        (try simp only [Act.put, List.getElem_toArray, List.getElem_cons_succ, List.getElem_cons_zero, List.setIfInBounds_toArray, List.set_cons_succ, List.set_cons_zero])
        have hb1 := below_one (w := Y0) (.cells #[.int .i64 0, .int .i64 0] 26)
        have xg := Bx.new Y0 #[.int .i64 0, .int .i64 0] 26
        have lg := x1.lt
        replace hcx := Below.keep hb1 hcx
        go_wp2_with fail
        replace x0 := x0.below hb1; replace x1 := x1.below hb1; replace hb := hb.trans (hb1.mono hb.size); clear hb1
        generalize Y0.alloc (.cells #[.int .i64 0, .int .i64 0] 26) = Y1 at *
        generalize Y0.heap.size = g at *
        subst hK
        refine ⟨⟨x0, x1, hcx⟩, ?_⟩
        refine HeadAt.one (i := 6) rfl (by kernel_rfl) ?_
        generalize hK : Upto _ _ = K0
        (try simp only [List.getElem_toArray, List.getElem_cons_succ, List.getElem_cons_zero])
        go_wp2_with fail
        refine (ac1 _ (hN0.below hb (Nat.le_refl _)) (hC0.below hb (Nat.le_refl _))).mono ?_
        rintro e Y3 ⟨rfl, hb1⟩
        replace hcx := Below.keep hb1 hcx
        replace x0 := x0.below hb1; replace x1 := x1.below hb1; replace xg := xg.below hb1; replace hb := hb.trans (hb1.mono hb.size); clear hb1
        go_wp2_with fail
        subst hK
        refine ⟨⟨x0, x1, hcx⟩, ?_⟩
        refine HeadAt.take (i := 7) (.tuple #[.agg #[.int .i64 p1, .int .i64 c1], .bool mb]) rfl (by kernel_rfl) (.inl ⟨rfl, fun _ _ => by simp [go_sem]⟩) ⟨x0, x1, hcx⟩ ?_
        refine HeadAt.take (i := 8) (.agg #[.int .i64 p1, .int .i64 c1]) rfl (by kernel_rfl) (.inl ⟨rfl, fun _ _ => by simp [go_sem]⟩) ⟨x0, x1, hcx⟩ ?_
        refine HeadAt.take (i := 9) (.bool mb) rfl (by kernel_rfl) (.inl ⟨rfl, fun _ _ => by simp [go_sem]⟩) ⟨x0, x1, hcx⟩ ?_
        refine HeadAt.one (i := 11) rfl (by kernel_rfl) ?_
        generalize hK : Upto _ _ = K0
        (try simp only [Act.put, List.getElem_toArray, List.getElem_cons_succ, List.getElem_cons_zero, List.setIfInBounds_toArray, List.set_cons_succ, List.set_cons_zero])
        have g0 := xg.cell 0 rfl; have g1 := xg.cell 1 rfl
        have f0 := xg.free 0; have f1 := xg.free 1
        have hcg : ∀ v1 v2 : Value, ∃ Z, (Y3.setCell ⟨g, 0, none⟩ v1).setCell ⟨g, 1, none⟩ v2 = Z ∧ Bx Z g #[v1, v2] 26 ∧ Bx Z w.heap.size #[.int .i64 (R : Int), .slice an N.length cn, .slice ac C.length cc] 24 ∧ Bx Z (w.heap.size + 1) #[.int .i64 s.p, .int .i64 s.c] 26 ∧ Below w.heap.size w Z ∧ Z.cell? ⟨b, off + k, none⟩ = some (.int .i64 x) := fun v1 v2 =>
          ⟨_, rfl, xg.set2 v1 v2, (x0.other (a := ⟨g, 0, none⟩) (by show w.heap.size ≠ g; omega) v1).other (a := ⟨g, 1, none⟩) (by show w.heap.size ≠ g; omega) v2, (x1.other (a := ⟨g, 0, none⟩) (by show w.heap.size + 1 ≠ g; omega) v1).other (a := ⟨g, 1, none⟩) (by show w.heap.size + 1 ≠ g; omega) v2, (hb.setCell (by show w.heap.size ≤ g; omega) v1).setCell (by show w.heap.size ≤ g; omega) v2,
            by rw [World.cell?_setCell_other _ _ _ _ (fun e => by injection e with e; omega), World.cell?_setCell_other _ _ _ _ (fun e => by injection e with e; omega)]; exact hcx⟩
        obtain ⟨Z, hZ, xgp, x0p, x1p, hbp, hcxp⟩ := hcg (.int .i64 p1) (.int .i64 c1)
        clear hcg
        go_wp2_with fail
        subst hK
        refine ⟨⟨x0p, x1p, hcxp⟩, ?_⟩
        clear x0 x1 xg hb hcx hZ g0 g1 f0 f1
        refine HeadAt.done (by kernel_rfl) ?_
        (try simp only [List.drop_succ_cons, List.drop_zero])
        have g0 := xgp.cell 0 rfl; have g1 := xgp.cell 1 rfl
        have d0 := x1p.cell 0 rfl; have d1 := x1p.cell 1 rfl
        have f0 := x1p.free 0; have f1 := x1p.free 1
        go_wp2_with fail
        refine NoPanic.normal ?_
        have hst : ∃ Y, (Z.setCell ⟨w.heap.size + 1, 0, none⟩ (.int .i64 p1)).setCell ⟨w.heap.size + 1, 1, none⟩ (.int .i64 c1) = Y ∧ Bx Y w.heap.size #[.int .i64 (R : Int), .slice an N.length cn, .slice ac C.length cc] 24 ∧ Bx Y (w.heap.size + 1) #[.int .i64 p1, .int .i64 c1] 26 ∧ Below w.heap.size w Y :=
          ⟨_, rfl, (x0p.other (a := ⟨w.heap.size + 1, 0, none⟩) (by show w.heap.size ≠ w.heap.size + 1; omega) _).other (a := ⟨w.heap.size + 1, 1, none⟩) (by show w.heap.size ≠ w.heap.size + 1; omega) _, x1p.set2 _ _, (hbp.setCell (by show w.heap.size ≤ w.heap.size + 1; omega) _).setCell (by show w.heap.size ≤ w.heap.size + 1; omega) _⟩
        obtain ⟨Y, hY, y0, y1, hbY⟩ := hst
        clear xgp x0p x1p hbp hcxp
        cases mb
        · go_wp2_with fail
          clear hY
          go_roundw
          case rel => exact ⟨k + 1, ⟨p1, c1⟩, n + ((c1 : Int) - (s.c : Int)), by omega, by go_num, by go_num, hp1l, by show c1 ≤ _; omega, by omega, by omega, by rw [Hn.out, HR.out]; simp, hbY, y0, y1⟩
          case measure => simp [intOf]; omega
        · go_wp2_with fail
          clear hY
          go_roundw
          case rel => exact ⟨k + 1, ⟨p1, c1⟩, n + ((c1 : Int) - (s.c : Int)) + 1, by omega, by go_num, by go_num, hp1l, by show c1 ≤ _; omega, by omega, by omega, by rw [Hn.out, HR.out]; simp, hbY, y0, y1⟩
          case measure => simp [intOf]; omega
    · have he : k = xs.length := by omega
      subst he
      have hlI : ((xs.length : Nat) : Int) ≤ (xs.length : Int) := Int.le_refl _
      go_wp2
      go_ret
      exact ⟨by rw [Hn.out, List.drop_length]; rfl, hb⟩
end Go.Proofs.Ytmkmnedojgigoaa
namespace Go.Proofs.Ytmkmnedojgigoaa
open Go.RowKit

/-- How many acts put in a coin. -/
def coinsA : List Int → Nat
  | [] => 0
  | x :: xs => (if 0 ≤ x then 1 else 0) + coinsA xs
theorem coinsA_app : ∀ xs ys : List Int, coinsA (xs ++ ys) = coinsA xs + coinsA ys
  | [], ys => by simp [coinsA]
  | x :: xs, ys => by
    rw [List.cons_append, coinsA, coinsA, coinsA_app xs ys]; omega
theorem coinsA_le : ∀ xs : List Int, coinsA xs ≤ xs.length
  | [] => Nat.le_refl _
  | x :: xs => by
    have := coinsA_le xs
    rw [coinsA, List.length_cons]
    split <;> omega
theorem actB_rng {C : List Int} {x : Int} (h : isActB C x = true) : -1 ≤ x ∧ x < C.length := by
  simp only [isActB, Bool.or_eq_true, decide_eq_true_eq, inR, Bool.and_eq_true, beq_iff_eq] at h
  omega

set_option maxRecDepth 100000 in
set_option maxHeartbeats 1000000 in
theorem isWay_ok (R : Nat) (an ac : Option Addr) (cn cc : Nat) (N C : List Int) (p a : Option Addr) (cp ca : Nat) (ys xs : List Int) (w : World) (hC : Ints w ac C) (hY : Ints w p ys) (hX : Ints w a xs) (hv : Vw R N C) (hall : xs.all (isActB C) = true) (hlen : xs.length ≤ 40) (h2 : xs.length ≤ 2 * coinsA xs) (hbag : bagA C.length xs = ys) :
    Calls Try.prog 35 #[.agg #[.int .i64 (R : Int), .slice an N.length cn, .slice ac C.length cc], .slice p ys.length cp, .slice a xs.length ca] w fun e w' => e = .returned (.bool true) ∧ Below w.heap.size w w' := by
  have c4 := hv.c4
  obtain ⟨W, hW, hb, hs, x0⟩ := boxes1 w #[.int .i64 (R : Int), .slice an N.length cn, .slice ac C.length cc] 24
  clear hs
  have hC0 := hC; have hX0 := hX; have hY0 := hY
  clear hC hX hY
  go_enter Try.func35, Try.ntmps35
  go_wp2
  clear hW
  go_loopw [7, 8] (fun v7 v8 wr => ∃ i, i ≤ xs.length ∧ v8 = .int .i64 (i : Nat) ∧ v7 = .int .i64 (coinsA (xs.take i) : Nat) ∧ Qd W wr) (fun _ v8 _ => xs.length - (intOf v8).toNat)
  case atStart => exact ⟨0, Nat.zero_le _, rfl, rfl, Qd.refl _⟩
  case round =>
    obtain ⟨i, hi, rfl, rfl, hqd⟩ := hrel
    have hb1 := hqd.below W.heap.size
    (try clear c0 c1 c2); replace x0 := x0.below hb1; have c0 := x0.cell 0 rfl; have c1 := x0.cell 1 rfl; have c2 := x0.cell 2 rfl; replace hb := hb.trans (hb1.mono hb.size); clear hb1
    have hcl := coinsA_le (xs.take i)
    rw [List.length_take] at hcl
    obtain ⟨q, hq⟩ : ∃ q, q = coinsA (xs.take i) := ⟨_, rfl⟩
    rw [← hq] at hcl ⊢
    have Hq := hid hq; clear hq
    by_cases hlt : i < xs.length
    · obtain ⟨b, off, x, rfl, hbs, hcx, _, _, hx, _⟩ := (hX0.below hb (Nat.le_refl _)).at hlt
      have hr := actB_rng (List.all_eq_true.1 hall x (List.mem_of_getElem? hx.out))
      have htk : coinsA (xs.take (i + 1)) = q + if 0 ≤ x then 1 else 0 := by
        rw [List.take_add_one, hx.out, Option.toList_some, coinsA_app, ← Hq.out]; simp [coinsA]
      have Htk := hid htk
      have h1 := hr.1; have h3 := hr.2
      clear htk hx hr
      have hiI : (i : Int) < (xs.length : Int) := by omega
      have hi0 : (0 : Int) ≤ (i : Int) := by omega
      by_cases hx0 : 0 ≤ x
      · rw [if_pos hx0] at Htk
        go_wp2
        go_quiet (fail)
        go_wp2
        go_roundw
        case rel => exact ⟨i + 1, by omega, by go_num, by rw [Htk.out]; go_num, hqd.drewN _⟩
        case measure => simp [intOf]; omega
      · rw [if_neg hx0] at Htk
        have hx1 : x < 0 := by omega
        clear hx0
        go_wp2
        go_quiet (fail)
        go_wp2
        go_roundw
        case rel => exact ⟨i + 1, by omega, by go_num, by rw [Htk.out]; rfl, hqd.drewN _⟩
        case measure => simp [intOf]; omega
    · have hiI : (xs.length : Int) ≤ (i : Int) := by omega
      have hqe : q = coinsA xs := by rw [Hq.out, List.take_of_length_le (by omega)]
      have h5 : (xs.length : Int) ≤ 2 * (q : Int) := by omega
      clear hqe hqd
      go_wp2_with fail
      refine (bag_any _ _ _ _ _ _ _ _ _ xs _ (hC0.below hb (Nat.le_refl _)) (hX0.below hb (Nat.le_refl _)) (by omega) (by omega)).mono ?_
      rintro e W1 ⟨hb1, a1, k1, rfl, hB, -⟩
      replace hb := hb.trans (hb1.mono hb.size)
      clear hb1 x0 c0 c1 c2
      rw [hbag] at hB ⊢
      go_wp2_with fail
      refine (sameInts_any _ _ _ _ _ _ _ hB (hY0.below hb (Nat.le_refl _))).mono ?_
      rintro e W2 ⟨rfl, hq2⟩
      rw [decide_eq_true (rfl : ys = ys)]
      replace hb := hb.trans ((hq2.below _).mono hb.size)
      clear hq2 hB
      go_wp2
      go_ret
      exact ⟨rfl, hb⟩
end Go.Proofs.Ytmkmnedojgigoaa
