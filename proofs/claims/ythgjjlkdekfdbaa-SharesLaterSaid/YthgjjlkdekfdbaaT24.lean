import Derived.Test.YthgjjlkdekfdbaaT23
import Derived.Test.YthgjjlkdekfdbaaT13
/-! The reference's way through the clauses. -/
namespace Go.Proofs.Ythgjjlkdekfdbaa
set_option linter.unusedSimpArgs false
set_option linter.unusedVariables false
open Go Go.RowKit

/-- What each clause gives. -/
def goneL (w : Wk) : List Cl → List Int
  | [] => []
  | x :: cs => givesW w x :: goneL (stepW w x) cs
theorem goneL_snoc : ∀ (cs : List Cl) (w : Wk) (x : Cl), goneL w (cs ++ [x]) = goneL w cs ++ [givesW (behindW w cs) x]
  | [], w, x => rfl
  | y :: cs, w, x => by
    show givesW w y :: goneL (stepW w y) (cs ++ [x]) = givesW w y :: goneL (stepW w y) cs ++ [_]
    rw [goneL_snoc cs (stepW w y) x]
    rfl
theorem goneL_len : ∀ (cs : List Cl) (w : Wk), (goneL w cs).length = cs.length
  | [], _ => rfl
  | x :: cs, w => by show (goneL (stepW w x) cs).length + 1 = _; rw [goneL_len cs]; rfl
theorem goneL_rng {T L : Int} : ∀ (cs : List Cl) (w : Wk), (∀ x ∈ cs, x.ok) → Inv T L w → T ≤ 1000000 → ∀ y ∈ goneL w cs, 0 ≤ y ∧ y ≤ 1000000
  | [], _, _, _, _, y, hy => by simp [goneL] at hy
  | x :: cs, w, hok, hi, hT, y, hy => by
    have hx := hok x List.mem_cons_self
    have hg := gives_rng hx hi
    rcases List.mem_cons.1 hy with rfl | h
    · have := hi.sum; have := hi.op; have := hi.ow; omega
    · exact goneL_rng cs _ (fun z hz => hok z (List.mem_cons_of_mem _ hz)) (hi.step hx) hT y h
theorem goneL_at : ∀ (cs : List Cl) (w : Wk) (j : Nat), j < cs.length → (goneL w cs)[j]? = some (givesW (behindW w (cs.take j)) (cs.getD j cl0))
  | [], _, j, h => by simp at h
  | x :: cs, w, 0, _ => rfl
  | x :: cs, w, j + 1, h => by
    have := goneL_at cs (stepW w x) j (by simpa using h)
    show (goneL (stepW w x) cs)[j]? = _
    rw [this]
    simp [behindW]

set_option maxRecDepth 100000 in
set_option maxHeartbeats 2000000 in
theorem ask_any (ac : Option Addr) (cc : Nat) (cs : List Cl) (L : Int) (o : Bool) (w : World) (hX : Clz w ac cs) : Calls Try.prog 53 #[.agg #[.slice ac cs.length cc, .int .i64 L], .bool o] w fun e w' => e = .returned (.int .i64 (askE cs L o)) ∧ Below w.heap.size w w' := by
  obtain ⟨W, hW, hb, _, x0⟩ := boxes1 w #[.slice ac cs.length cc, .int .i64 L] 24
  have hv := refCheck_any ac cc cs L W (hX.below hb (Nat.le_refl _))
  obtain ⟨r, hr⟩ : ∃ r, r = askE cs L o := ⟨_, rfl⟩
  have hra : r = if shB cs L then (if o then 0 else 1) else 90 := hr
  rw [← hr]
  clear hr
  generalize shB cs L = q at *
  have HR := hid hra
  clear hra
  have c0 := x0.cell 0 rfl; have c1 := x0.cell 1 rfl
  clear x0
  go_enter Try.func53, Try.ntmps53
  go_wp2_with fail
  refine hv.mono ?_
  rintro e W1 ⟨rfl, hb1⟩
  replace hb := hb.trans (hb1.mono hb.size)
  clear c0 c1 hW hv
  cases q
  · have e0 : cod false = 90 := rfl
    rw [e0]
    go_wp2
    go_ret
    exact ⟨ret_int (by rw [HR.out]; rfl), hb⟩
  · have e0 : cod true = 0 := rfl
    rw [e0]
    cases o
    · go_wp2
      go_ret
      exact ⟨ret_int (by rw [HR.out]; rfl), hb⟩
    · go_wp2
      go_ret
      exact ⟨ret_int (by rw [HR.out]; rfl), hb⟩

set_option maxRecDepth 100000 in
theorem IsOwn_any (x : Cl) (w : World) : Calls Try.prog 41 #[.agg #[.int .i64 x.k, .int .i64 x.c, .int .i64 x.p, .int .i64 x.m]] w fun e w' => e = .returned (.bool (decide (3 ≤ x.k))) ∧ Below w.heap.size w w' := by
  obtain ⟨W, hW, hb, _, x0⟩ := boxes1 w #[.int .i64 x.k, .int .i64 x.c, .int .i64 x.p, .int .i64 x.m] 56
  have c0 := x0.cell 0 rfl; have c1 := x0.cell 1 rfl; have c2 := x0.cell 2 rfl; have c3 := x0.cell 3 rfl
  obtain ⟨r, hr⟩ : ∃ r, r = decide (3 ≤ x.k) := ⟨_, rfl⟩
  rw [← hr]
  by_cases h : 3 ≤ x.k
  · have HR := hid (show r = true by rw [hr]; exact decide_eq_true h)
    clear hr
    go_enter Try.func41, Try.ntmps41
    go_wp2
    go_ret
    exact ⟨ret_bool (by rw [HR.out]), hb⟩
  · have HR := hid (show r = false by rw [hr]; exact decide_eq_false h)
    have h' : x.k < 3 := by omega
    clear hr
    go_enter Try.func41, Try.ntmps41
    go_wp2
    go_ret
    exact ⟨ret_bool (by rw [HR.out]), hb⟩


/-- The world while the clauses are gone through. -/
structure GoW (w : World) (ac : Option Addr) (cc n : Nat) (L : Int) (u : Wk) (p : Nat) (v : Value) (xs : List Int) (wr : World) : Prop where
  x0 : Bx wr w.heap.size #[.slice ac n cc, .int .i64 L] 24
  x1 : Bx wr (w.heap.size + 1) #[.int .i64 0, .int .i64 0, .int .i64 0] 33
  x2 : Bx wr (w.heap.size + 1 + 1) #[.int .i64 0, .int .i64 u.ow, .int .i64 u.rp] 33
  own : wr.ownsRow (w.heap.size + 3) 3 1 v p (xs.map (Value.int .i64))
  bl : Below w.heap.size w wr
  sz : w.heap.size + 3 ≤ wr.heap.size
theorem GoW.below {w : World} {ac : Option Addr} {cc n : Nat} {L : Int} {u : Wk} {p : Nat} {v : Value} {xs : List Int} {a b : World} (h : GoW w ac cc n L u p v xs a) (hb : Below a.heap.size a b) : GoW w ac cc n L u p v xs b :=
  ⟨h.x0.below hb, h.x1.below hb, h.x2.below hb, own_below2 h.own hb, h.bl.trans (hb.mono h.bl.size), Nat.le_trans h.sz hb.size⟩
/-- The split is laid anew. -/
theorem GoW.put {w : World} {ac : Option Addr} {cc n : Nat} {L : Int} {u u' : Wk} {p : Nat} {v : Value} {xs : List Int} {a : World} (h : GoW w ac cc n L u p v xs a) (i : Nat) (y : Value) (he : (#[.int .i64 0, .int .i64 u.ow, .int .i64 u.rp] : Array Value).setIfInBounds i y = #[.int .i64 0, .int .i64 u'.ow, .int .i64 u'.rp]) : GoW w ac cc n L u' p v xs (a.setCell ⟨w.heap.size + 1 + 1, i, none⟩ y) := by
  have hg : a.grownBy (a.setCell ⟨w.heap.size + 1 + 1, i, none⟩ y) (some (w.heap.size + 1 + 1)) := gset a _ _
  refine ⟨h.x0.gb hg (fun k hk => by injection hk with hk; omega), h.x1.gb hg (fun k hk => by injection hk with hk; omega), ?_, own_keep h.own hg (fun k hk e => by have := own_ge2 h.own k hk; injection e with e; omega), h.bl.setCell (by show w.heap.size ≤ w.heap.size + 1 + 1; omega) y, by simpa [World.setCell] using h.sz⟩
  have := h.x2.set i y
  rw [he] at this
  exact this

set_option maxRecDepth 100000 in
set_option maxHeartbeats 8000000 in
theorem Gone_any (ac : Option Addr) (cc : Nat) (cs : List Cl) (L : Int) (t g : Int) (ho : Ok cs L t) (hg : 0 ≤ g ∧ g ≤ 1000000) (hn5 : cs.length ≤ 40) (w : World) (hX : Clz w ac cs) (w0 : Wk) (hw0 : w0 = payOw (beginW L t) (min g t)) (u : Wk) (hu : u = endW (behindW w0 cs)) : Calls Try.prog 54 #[.agg #[.slice ac cs.length cc, .int .i64 L], .int .i64 t, .int .i64 g] w fun e w' => ∃ (a : Option Addr) (c : Nat), e = .returned (.tuple #[.slice a cs.length c, .agg #[.int .i64 u.op, .int .i64 u.ow, .int .i64 u.rp]]) ∧ Ints w' a (goneL w0 cs) ∧ Below w.heap.size w w' := by
  obtain ⟨j0, hj0, jz0, jz1, jz2⟩ := info_parts info3i
  obtain ⟨W, hW, hb, hs, x0, x1⟩ := boxes2 w #[.slice ac cs.length cc, .int .i64 L] 24 #[.int .i64 0, .int .i64 0, .int .i64 0] 33
  have htt := ho.t; have hLL := ho.L; have hok := ho.cs
  have hi0 : Inv t L w0 := by rw [hw0]; exact Inv.gift htt.1 hLL.1 hg.1
  obtain ⟨mg, hmg⟩ : ∃ mg, mg = min g t := ⟨_, rfl⟩
  have hmr : 0 ≤ mg ∧ mg ≤ t := by omega
  have e1 : w0.ow = mg := by rw [hw0, ← hmg]; simp [payOw, beginW]
  have e2 : w0.rp = 0 := by rw [hw0]; rfl
  have e3 : w0.rest = t - mg := by rw [hw0, ← hmg]; rfl
  have hfin : u.op = t - u.ow ∧ u.ow = (behindW w0 cs).ow ∧ u.rp = (behindW w0 cs).rp := by
    have := hi0.behind hok
    have hs := this.sum
    refine ⟨?_, by rw [hu]; rfl, by rw [hu]; rfl⟩
    rw [hu]
    simp only [endW, payOp]
    omega
  have hub := (hu ▸ (hi0.behind hok).fin.1 : Inv t L u).wb htt.2 hLL.2
  have huo := hub.ow; have hurp := hub.rp; have huop := hub.op
  have hrl := goneL_rng cs w0 hok hi0 htt.2
  have hgl := goneL_len cs w0
  have HF := hid hfin; have HRL := hid hrl; have HGL := hid hgl
  have E0 : GoW w ac cc cs.length L w0 0 (.slice none 0 0) [] (W.alloc (.cells #[.int .i64 0, .int .i64 mg, .int .i64 0] 33)) := by
    have hbn := below_one (w := W) (.cells #[.int .i64 0, .int .i64 mg, .int .i64 0] 33)
    have x2 := Bx.new W #[.int .i64 0, .int .i64 mg, .int .i64 0] 33
    exact ⟨x0.below hbn, x1.below hbn, by rw [e1, e2]; rw [hs] at x2; exact x2, World.ownsRow_nil _ _ _ _, hb.trans (hbn.mono hb.size), by simp; omega⟩
  have hlen := hX.len
  have hmc : (g ≤ t ∧ mg = g) ∨ (t < g ∧ mg = t) := by omega
  have HR0 := hid (show t - w0.ow = w0.rest by rw [e1, e3])
  have ewr : IntKind.i64.wrap (t - w0.ow) = t - w0.ow := IntWalk.i64_in _ (by omega)
  have ewf : IntKind.i64.wrap (t - u.ow) = t - u.ow := IntWalk.i64_in _ (by omega)
  clear hu hw0 hub hrl hgl hfin e1 e2 e3 hmg x0 x1
  obtain ⟨n, hn⟩ : ∃ n, n = cs.length := ⟨_, rfl⟩
  rw [← hn] at E0 hlen hW hn5 ⊢
  have HN := hid hn
  clear hn
  obtain ⟨W2, hW2⟩ : ∃ W2, W2 = W.alloc (.cells #[.int .i64 0, .int .i64 mg, .int .i64 0] 33) := ⟨_, rfl⟩
  rw [← hW2] at E0
  have HW2 := hid hW2
  clear hW2
  go_enter Try.func54, Try.ntmps54
  go_upto_region 1 with fail
  go_cut [8] (fun s8 wx => s8 = .pointer (some ⟨w.heap.size + 1 + 1, 0, none⟩) ∧ wx = W2)
  case first =>
    rcases hmc with ⟨hle, he⟩ | ⟨hle, he⟩
    · rw [he] at HW2
      clear he E0 HF HR0 ewr hmr
      go_wp2_with fail
      go_meet
      exact ⟨rfl, by rw [HW2.out]⟩
    · rw [he] at HW2
      clear he E0 HF HR0 ewr hmr
      go_wp2_with fail
      go_meet
      exact ⟨rfl, by rw [HW2.out]⟩
  case rest =>
    obtain ⟨rfl, rfl⟩ := hcut
    have m1 := E0.x2.cell 1 rfl
    clear hmc HW2 hW hb hs hmr
    go_wp2
    clear m1
    go_loopw [9, 10, 11, 12, 13] (fun v9 v10 v11 v12 v13 wr => ∃ (k : Nat) (re : Int) (vw : Wk), k ≤ n ∧ v9 = .int .i64 re ∧ v11 = .int .i64 (k : Int) ∧ Hid (re = vw.rest ∧ vw = behindW w0 (cs.take k)) ∧ GoW w ac cc n L vw k v10 (goneL w0 (cs.take k)) wr) (fun _ _ v11 _ _ _ => n - (intOf v11).toNat)
    case atStart => exact ⟨0, t - w0.ow, w0, Nat.zero_le _, rfl, rfl, hid ⟨HR0.out, rfl⟩, E0⟩
    case round =>
      clear E0
      obtain ⟨k, re, vw, hk, rfl, rfl, HV, E⟩ := hrel
      obtain ⟨a6, c6, rfl⟩ := own_slice2 E.own
      by_cases hlt : k < n
      · obtain ⟨bq, off, x, rfl, hbl, ⟨q0, q1, q2, q3⟩, _, hmem, _, _, htk⟩ := (hX.below E.bl (Nat.le_refl _)).at (k := k) (by rw [← HN.out]; exact hlt)
        have hkI : (k : Int) < n := by omega
        have hk0 : (0 : Int) ≤ (k : Int) := by omega
        obtain ⟨hre, hvw⟩ := HV.out
        have hxo := hok x hmem
        have hvi : Inv t L vw := by rw [hvw]; exact hi0.behind (fun y hy => hok y (List.mem_of_mem_take hy))
        have hgi := fun (V : World) => Given_any vw x hxo hvi htt.2 hLL.2 V
        have hgr := gives_rng hxo hvi
        obtain ⟨p1, p2, p3⟩ := step_parts vw x hxo
        have HS := hid (show stepW vw x = behindW w0 (cs.take (k + 1)) by rw [htk.out, behind_snoc, ← hvw])
        have HG := hid (show goneL w0 (cs.take (k + 1)) = goneL w0 (cs.take k) ++ [givesW vw x] by rw [htk.out, goneL_snoc, ← hvw])
        have hloan := hvi.loan
        have eow : vw.owed = L - vw.rp := by omega
        rw [← hre, eow] at hgi
        have how := fun V => IsOwn_any x V
        have i1 := hvi.op; have i2 := hvi.ow; have i3 := hvi.rp; have i4 := hvi.rest; have i5 := hvi.sum; have i6 := hvi.le; have i8 := hvi.owed
        obtain ⟨gk, hgk⟩ : ∃ gk, gk = givesW vw x := ⟨_, rfl⟩
        obtain ⟨s, hsv⟩ : ∃ s, s = stepW vw x := ⟨_, rfl⟩
        rw [← hgk] at hgi hgr p1 p2 p3 HG
        rw [← hsv] at p1 p2 p3 HS
        rw [← hre] at p1 i4 hgr
        have c0' : IntKind.i64.wrap (L - vw.rp) = L - vw.rp := IntWalk.i64_in _ (by omega)
        have c1' : IntKind.i64.wrap (re - gk) = re - gk := IntWalk.i64_in _ (by omega)
        have c2' : IntKind.i64.wrap (vw.ow + gk) = vw.ow + gk := IntWalk.i64_in _ (by omega)
        have c3' : IntKind.i64.wrap (vw.rp + gk) = vw.rp + gk := IntWalk.i64_in _ (by omega)
        have hxk := hxo.1
        have HP1 := hid p1
        clear hre hvw HV hloan eow i1 i2 i3 i4 i5 i6 i8 hgr hgk hsv hvi hxo hmem htk p1
        have hba := below_one (w := wr) (.cells #[.int .i64 x.k, .int .i64 x.c, .int .i64 x.p, .int .i64 x.m] 56)
        have HX := hid (And.intro (E.below hba) (Bx.new wr #[.int .i64 x.k, .int .i64 x.c, .int .i64 x.p, .int .i64 x.m] 56))
        have c0 := E.x0.cell 0 rfl
        clear hba
        go_upto_region 8 with fail
        have hgbl : ∀ q, (Value.slice a6 k c6).ownBlock = some q → q < wr.heap.size := fun q hq => (E.own.lt q hq).2
        have hgs0 := E.sz
        obtain ⟨E1, xn⟩ := HX.out
        clear HX E q0 q1 q2 q3 c0 hbl
        obtain ⟨gb, hgb⟩ : ∃ gb, gb = wr.heap.size := ⟨_, rfl⟩
        have hgs : w.heap.size + 3 ≤ gb := by rw [hgb]; exact hgs0
        rw [← hgb] at xn hgbl ⊢
        clear hgb hgs0
        generalize World.alloc _ _ = V1 at *
        have hown := fun V => how V
        have d0 := xn.cell 0 rfl; have d1 := xn.cell 1 rfl; have d2 := xn.cell 2 rfl; have d3 := xn.cell 3 rfl
        have e0 := E1.x0.cell 1 rfl
        have e1 := E1.x2.cell 1 rfl
        have e2 := E1.x2.cell 2 rfl
        go_wp2_with fail
        refine (hgi _).mono ?_
        rintro e V2 ⟨rfl, hb1⟩
        replace E1 := E1.below hb1; replace xn := xn.below hb1
        clear hb1 hgi d0 d1 d2 d3 e0 e1 e2
        go_upto_region 10 with fail
        have hba := below_one (w := V2) (.cells #[.int .i64 gk] 3)
        have E2 := E1.below hba
        have xn2 := xn.below hba
        have hge := own_ge2 E1.own
        have hgz : V2.heap.size < (V2.alloc (.cells #[.int .i64 gk] 3)).heap.size := by simp
        have hcl := Cls.of_bx (Bx.new V2 #[.int .i64 gk] 3)
        have hz2 := E1.sz
        clear hba E1 xn
        go_wp2_with (first | (at_builtin; refine wpList_app rfl _ _ 41 rfl (w.heap.size + 3) 3 j0 (.int .i64 0) 1 8 under41 hj0 jz0 jz1 jz2 rfl (by decide) (.slice a6 k c6) k _ rfl E2.own (some ⟨V2.heap.size, 0, none⟩) 1 1 [.int .i64 gk] rfl rfl hcl (ints_oneCell .i64 [gk]) (by unfold maxLen; omega) (by omega) E2.sz ?_; intro v2 V3 own2 hg2; have xn3 := xn2.gb hg2 (fun q hq => by have := hgbl q hq; omega); have E3 : GoW w (some ⟨bq, off, none⟩) cc n L vw (k + 1) v2 (goneL w0 (cs.take (k + 1))) V3 := ⟨E2.x0.gb hg2 (fun q hq => by have := hge q hq; omega), E2.x1.gb hg2 (fun q hq => by have := hge q hq; omega), E2.x2.gb hg2 (fun q hq => by have := hge q hq; omega), by rw [HG.out, List.map_append]; exact own2, E2.bl.grown hg2 (by have := E2.sz; omega) (fun q hq => by have := hge q hq; omega), Nat.le_trans E2.sz hg2.size⟩; have d0 := xn3.cell 0 rfl; have d1 := xn3.cell 1 rfl; have d2 := xn3.cell 2 rfl; have d3 := xn3.cell 3 rfl; clear E2 xn2 hg2 own2 hcl hge hgbl hgz hz2) | fail)
        clear d0 d1 d2 d3
        have d0 := xn3.cell 0 rfl; have d1 := xn3.cell 1 rfl; have d2 := xn3.cell 2 rfl; have d3 := xn3.cell 3 rfl
        by_cases k3 : 3 ≤ x.k
        · rw [if_pos k3] at p2
          rw [if_neg (by omega)] at p3
          have kB : (x.k == 2) = false := by simp; omega
          rw [decide_eq_true k3] at how
          have HP := hid (And.intro p2 p3)
          clear p2 p3 hown
          go_wp2_with fail
          refine (how _).mono ?_
          rintro e V4 ⟨rfl, hb1⟩
          replace E3 := E3.below hb1
          replace xn3 := xn3.below hb1
          clear hb1 d0 d1 d2 d3 how
          have f1 := E3.x2.cell 1 rfl
          have z1 := E3.x2.free 1
          have E4 : GoW w (some ⟨bq, off, none⟩) cc n L s (k + 1) v2 (goneL w0 (cs.take (k + 1))) (V4.setCell ⟨w.heap.size + 1 + 1, 1, none⟩ (.int .i64 (vw.ow + gk))) := E3.put 1 _ (by rw [HP.out.1, HP.out.2]; rfl)
          have xn4 := xn3.other (a := ⟨w.heap.size + 1 + 1, 1, none⟩) (by show gb ≠ w.heap.size + 1 + 1; omega) (.int .i64 (vw.ow + gk))
          have HE := hid (And.intro E4 xn4)
          clear E3 E4 xn3 xn4
          go_upto_region 13 with fail
          obtain ⟨E4, xn4⟩ := HE.out
          clear HE f1 z1
          generalize World.setCell _ _ _ = V5 at *
          have d0 := xn4.cell 0 rfl
          go_wp2
          go_roundw
          case rel => exact ⟨k + 1, re - gk, s, by omega, rfl, by simp, hid ⟨HP1.out.symm, HS.out⟩, E4⟩
          case measure => simp [intOf]; omega
        · rw [if_neg k3] at p2
          rw [decide_eq_false k3] at how
          by_cases k2 : x.k = 2
          · rw [if_pos k2] at p3
            have kB : (x.k == 2) = true := by simp [k2]
            have HP := hid (And.intro p2 p3)
            clear p2 p3 hown k2
            go_wp2_with fail
            refine (how _).mono ?_
            rintro e V4 ⟨rfl, hb1⟩
            replace E3 := E3.below hb1
            replace xn3 := xn3.below hb1
            clear hb1 d0 d1 d2 d3 how
            have f1 := E3.x2.cell 2 rfl
            have z1 := E3.x2.free 2
            have E4 : GoW w (some ⟨bq, off, none⟩) cc n L s (k + 1) v2 (goneL w0 (cs.take (k + 1))) (V4.setCell ⟨w.heap.size + 1 + 1, 2, none⟩ (.int .i64 (vw.rp + gk))) := E3.put 2 _ (by rw [HP.out.1, HP.out.2]; rfl)
            have HE := hid E4
            clear E4
            have d0 := xn3.cell 0 rfl
            go_wp2
            go_roundw
            case rel => exact ⟨k + 1, re - gk, s, by omega, rfl, by simp, hid ⟨HP1.out.symm, HS.out⟩, HE.out⟩
            case measure => simp [intOf]; omega
          · rw [if_neg k2] at p3
            have kB : (x.k == 2) = false := by simp [k2]
            have HP := hid (And.intro p2 p3)
            clear p2 p3 hown k2
            go_wp2_with fail
            refine (how _).mono ?_
            rintro e V4 ⟨rfl, hb1⟩
            replace E3 := E3.below hb1
            replace xn3 := xn3.below hb1
            clear hb1 d0 d1 d2 d3 how
            have E4 : GoW w (some ⟨bq, off, none⟩) cc n L s (k + 1) v2 (goneL w0 (cs.take (k + 1))) V4 := ⟨E3.x0, E3.x1, by rw [HP.out.1, HP.out.2]; exact E3.x2, E3.own, E3.bl, E3.sz⟩
            have HE := hid E4
            clear E4
            have d0 := xn3.cell 0 rfl
            go_wp2
            go_roundw
            case rel => exact ⟨k + 1, re - gk, s, by omega, rfl, by simp, hid ⟨HP1.out.symm, HS.out⟩, HE.out⟩
            case measure => simp [intOf]; omega
      · have hkn : k = n := by omega
        have hkI : ¬ (k : Int) < n := by omega
        obtain ⟨hre, hvw⟩ := HV.out
        rw [hkn, HN.out, List.take_length] at hvw
        have ht : cs.take k = cs := by rw [hkn, HN.out, List.take_length]
        rw [ht] at E
        obtain ⟨f1, f2, f3⟩ := HF.out
        rw [← hvw] at f2 f3
        have hkl : k = (goneL w0 cs).length := by rw [HGL.out, ← HN.out]; exact hkn
        have hnl : n = (goneL w0 cs).length := by rw [HGL.out, ← HN.out]
        have own := E.own
        rw [hkl] at own
        obtain ⟨a, ca, he, hI⟩ := Ints.of_own own (by rw [HGL.out, ← HN.out]; omega) (fun y hy => by have := HRL.out y hy; omega)
        have hnew := own_new own
        simp only [Value.slice.injEq] at he
        obtain ⟨rfl, _, rfl⟩ := he
        have HKN := hid hkn
        have y1 := E.x1
        have y2 := E.x2
        rw [← f2, ← f3] at y2
        have bl := E.bl
        have sz := E.sz
        have hf2 := hid (show vw.ow = u.ow from f2.symm)
        have m1 := y2.cell 1 rfl
        have m0 := y2.cell 0 rfl
        have mf := y2.free 0
        have z2 := y2.set 0 (.int .i64 (t - u.ow))
        have z1 := y1.other (a := ⟨w.heap.size + 1 + 1, 0, none⟩) (by show w.heap.size + 1 ≠ w.heap.size + 1 + 1; omega) (.int .i64 (t - u.ow))
        have zb := bl.setCell (p := ⟨w.heap.size + 1 + 1, 0, none⟩) (by show w.heap.size ≤ w.heap.size + 1 + 1; omega) (.int .i64 (t - u.ow))
        have zi := hI.set (b := w.heap.size + 1 + 1) (fun _ x e => by have := hnew x e; omega) 0 (.int .i64 (t - u.ow))
        have HZ := hid (And.intro z1 (And.intro z2 (And.intro zb zi)))
        have HF1 := hid f1
        have c0 := E.x0.cell 0 rfl
        clear z1 z2 zb zi own hkl hnl hkn ht hre hvw HV f1 f2 f3 y1 y2 bl hI E
        go_upto_region 16 with fail
        obtain ⟨z1, z2, zb, zi⟩ := HZ.out
        clear HZ m0 m1 mf c0
        generalize World.setCell _ _ _ = V6 at *
        replace z2 : Bx V6 (w.heap.size + 1 + 1) #[.int .i64 (t - u.ow), .int .i64 u.ow, .int .i64 u.rp] 33 := by simpa using z2
        rw [← HF1.out] at z2
        have k0 := z2.ext 0 rfl; have k1 := z2.ext 1 rfl; have k2 := z2.ext 2 rfl
        refine wp_region_ext_tail 3 (by kernel_rfl) (by kernel_rfl) ?_
        repeat (quiet_step (fail))
        refine wpQuiet_nil ?_
        intro _ hw'
        obtain ⟨tt, rfl⟩ := hw'
        have hbt := tt.below
        clear k0 k1 k2
        replace z1 := z1.below hbt
        replace zi := zi.below hbt (Nat.le_refl _)
        replace zb := zb.trans (hbt.mono zb.size)
        clear hbt z2
        generalize tt.w = V7 at *
        have d0 := z1.cell 0 rfl; have d1 := z1.cell 1 rfl; have d2 := z1.cell 2 rfl
        have g0 := z1.free 0; have g1 := z1.free 1; have g2 := z1.free 2
        have r1 := z1.set3 (.int .i64 u.op) (.int .i64 u.ow) (.int .i64 u.rp)
        have r2 := below_put3 zb (b := w.heap.size + 1) (by omega) (.int .i64 u.op) (.int .i64 u.ow) (.int .i64 u.rp)
        have r3 := ((zi.set (b := w.heap.size + 1) (fun _ x e => by have := hnew x e; omega) 0 (.int .i64 u.op)).set (b := w.heap.size + 1) (fun _ x e => by have := hnew x e; omega) 1 (.int .i64 u.ow)).set (b := w.heap.size + 1) (fun _ x e => by have := hnew x e; omega) 2 (.int .i64 u.rp)
        have HR3 := hid (And.intro r1 (And.intro r2 r3))
        clear r1 r2 r3 z1 zb zi hnew
        go_wp2_with fail
        obtain ⟨r1, r2, r3⟩ := HR3.out
        clear HR3
        generalize World.setCell _ _ _ = VV at *
        have k0 := r1.cell 0 rfl; have k1 := r1.cell 1 rfl; have k2 := r1.cell 2 rfl
        refine bodyPost_ret (v := .tuple #[.slice a6 k c6, .agg #[.int .i64 u.op, .int .i64 u.ow, .int .i64 u.rp]]) ?_ rfl ⟨a6, ⟨c6, by rw [HKN.out]⟩, r3, r2⟩
        simp [results, Try.results54, go_sem, k0, k1, k2]
end Go.Proofs.Ythgjjlkdekfdbaa
