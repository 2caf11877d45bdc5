import Derived.Test.YtknaljghpfeikaaM17
import Derived.Test.YtknaljghpfeikaaT71
namespace Go.Proofs.Ytknaljghpfeikaa
open Go.RowKit

/-- A tray with one press more. -/
def WithP (n m : Nat) (ar : Option Addr) (cr : Nat) (p0 way step : Int) (ps : List (Int × Int)) (x y : Int) (w : World) (e : Ending) (w' : World) : Prop :=
  Below w.heap.size w w' ∧ ∃ (a : Option Addr) (c : Nat), e = .returned (.agg #[.slice ar n cr, .int .i64 p0, .int .i64 way, .int .i64 step, .slice a (m + 1) c]) ∧ Prs w' a (ps ++ [(x, y)])
/-- Between the two appends. -/
structure WiS (b6 b7 B n m : Nat) (ar ap : Option Addr) (cr cp : Nat) (p0 way step : Int) (w : World) (v : Value) (k : Nat) (xs : List Value) (wr : World) : Prop where
  x6 : Bx wr b6 #[.slice none 0 0, .int .i64 0, .int .i64 0, .int .i64 0, .slice none 0 0] 25
  x7 : Bx wr b7 #[.slice ar n cr, .int .i64 p0, .int .i64 way, .int .i64 step, .slice ap m cp] 25
  own : wr.ownsRow B 40 2 v k xs
  h6 : b6 < B
  h7 : b7 < B
  h8 : w.heap.size ≤ b6
  h9 : w.heap.size ≤ b7
  hB : B ≤ wr.heap.size
  hb : Below w.heap.size w wr
section
variable {b6 b7 B n m : Nat} {ar ap : Option Addr} {cr cp : Nat} {p0 way step : Int} {w : World} {v v' : Value} {k k' : Nat} {xs xs' : List Value} {wr wr' : World}
theorem WiS.below (h : WiS b6 b7 B n m ar ap cr cp p0 way step w v k xs wr) (hb : Below wr.heap.size wr wr') : WiS b6 b7 B n m ar ap cr cp p0 way step w v k xs wr' :=
  ⟨h.x6.below hb, h.x7.below hb, own_below2 h.own hb, h.h6, h.h7, h.h8, h.h9, Nat.le_trans h.hB hb.size, h.hb.trans (hb.mono h.hb.size)⟩
theorem WiS.app (h : WiS b6 b7 B n m ar ap cr cp p0 way step w v k xs wr) (ho : wr'.ownsRow B 40 2 v' k' xs') (hg : wr.grownBy wr' v.ownBlock) : WiS b6 b7 B n m ar ap cr cp p0 way step w v' k' xs' wr' := by
  have hge := own_ge2 h.own
  have h6 := h.h6; have h7 := h.h7; have h8 := h.h8
  exact ⟨h.x6.gb hg (fun j hj e => by have := hge j hj; omega), h.x7.gb hg (fun j hj e => by have := hge j hj; omega), ho, h6, h7, h8, h.h9, Nat.le_trans h.hB hg.size, h.hb.grown hg h.hb.size (fun j hj => by have := hge j hj; omega)⟩
/-- What is there behind the first append. -/
theorem WiS.one {x y : Int} {ps : List (Int × Int)} (h : WiS b6 b7 B n m ar ap cr cp p0 way step w v k xs wr) (ho : wr'.ownsRow B 40 2 v' (0 + m) ([] ++ pcells ps)) (hg : wr.grownBy wr' v.ownBlock) :
    ∃ a c, v' = .slice a m c ∧ Hid (WiS b6 b7 B n m ar ap cr cp p0 way step w (.slice a m c) m (pcells ps) (wr'.alloc (.cells #[.int .i64 x, .int .i64 y] 40))) ∧ (wr'.alloc (.cells #[.int .i64 x, .int .i64 y] 40)).ownsRow B 40 2 (.slice a m c) m (pcells ps) ∧
      Cls (wr'.alloc (.cells #[.int .i64 x, .int .i64 y] 40)) (some ⟨wr'.heap.size, 0, none⟩) [.int .i64 x, .int .i64 y] ∧ B ≤ (wr'.alloc (.cells #[.int .i64 x, .int .i64 y] 40)).heap.size := by
  rw [Nat.zero_add, List.nil_append] at ho
  obtain ⟨a, c, rfl⟩ := own_slice2 ho
  have h1 := (h.app ho hg).below (below_one (w := wr') (.cells #[.int .i64 x, .int .i64 y] 40))
  exact ⟨a, c, rfl, h1, h1.own, Cls.of_bx (Bx.new wr' #[.int .i64 x, .int .i64 y] 40), h1.hB⟩
/-- And behind the second one, and the store. -/
theorem WiS.two {x y : Int} {ps : List (Int × Int)} (h : WiS b6 b7 B n m ar ap cr cp p0 way step w v k xs wr) (ho : wr'.ownsRow B 40 2 v' (m + 1) (pcells ps ++ [.int .i64 x, .int .i64 y])) (hg : wr.grownBy wr' v.ownBlock) (h67 : b6 ≠ b7) :
    ∃ a c, v' = .slice a (m + 1) c ∧ wr'.frozen? ⟨b7, 4, none⟩ = false ∧ wr'.cell? ⟨b7, 4, none⟩ = some (.slice ap m cp) ∧
      Bx (wr'.setCell ⟨b7, 4, none⟩ (.slice a (m + 1) c)) b7 #[.slice ar n cr, .int .i64 p0, .int .i64 way, .int .i64 step, .slice a (m + 1) c] 25 ∧ Bx (wr'.setCell ⟨b7, 4, none⟩ (.slice a (m + 1) c)) b6 #[.slice none 0 0, .int .i64 0, .int .i64 0, .int .i64 0, .slice none 0 0] 25 ∧
      Hid ((wr'.setCell ⟨b7, 4, none⟩ (.slice a (m + 1) c)).ownsRow B 40 2 (.slice a (m + 1) c) (m + 1) (pcells (ps ++ [(x, y)])) ∧ Below w.heap.size w (wr'.setCell ⟨b7, 4, none⟩ (.slice a (m + 1) c))) := by
  obtain ⟨a, c, rfl⟩ := own_slice2 ho
  have e : pcells (ps ++ [(x, y)]) = pcells ps ++ [.int .i64 x, .int .i64 y] := by rw [pcells_app]; rfl
  rw [← e] at ho
  have h1 := h.app ho hg
  have gs := gset wr' ⟨b7, 4, none⟩ (.slice a (m + 1) c)
  have h7 := h.h7; have h9 := h.h9
  exact ⟨a, c, rfl, h1.x7.free 4, h1.x7.cell 4 rfl, h1.x7.set 4 _, h1.x6.gb gs (fun j hj => by cases hj; exact h67), own_keep h1.own gs (fun j hj e => by have := own_ge2 h1.own j hj; injection e with e; have e' : b7 = j := e; omega), h1.hb.grown gs h1.hb.size (fun j hj => by cases hj; show w.heap.size ≤ b7; omega)⟩
end
set_option maxRecDepth 100000 in
set_option maxHeartbeats 4000000 in
theorem with_any (ar ap : Option Addr) (cr cp : Nat) (rs ps : List (Int × Int)) (p0 way step : Int) (x y : Int) (w : World) (_hR : Prs w ar rs) (hP : Prs w ap ps) (hm6 : ps.length ≤ 1000) (hxy : -9223372036854775808 ≤ x ∧ x ≤ 9223372036854775807 ∧ -9223372036854775808 ≤ y ∧ y ≤ 9223372036854775807) :
    Calls Try.prog 83 #[.agg #[.slice ar rs.length cr, .int .i64 p0, .int .i64 way, .int .i64 step, .slice ap ps.length cp], .int .i64 x, .int .i64 y] w (WithP rs.length ps.length ar cr p0 way step ps x y w) := by
  obtain ⟨i0, hq0, iz0, iz1, iz2⟩ := info_parts info40
  obtain ⟨n, hn⟩ : ∃ n, n = rs.length := ⟨_, rfl⟩
  obtain ⟨m, hm⟩ : ∃ m, m = ps.length := ⟨_, rfl⟩
  have hPB := hP.2.1
  rw [← hn, ← hm]
  rw [← hm] at hm6
  have HM := hid hm; have HPB := hid hPB
  have hlen : (pcells ps).length = m * 2 := by rw [pcells_len, hm]
  have HLN := hid hlen
  clear hn hm hPB hlen
  obtain ⟨V0, hV0, hb, hs, x3, x6⟩ := boxes2 w #[.slice ar n cr, .int .i64 p0, .int .i64 way, .int .i64 step, .slice ap m cp] 25 #[.slice none 0 0, .int .i64 0, .int .i64 0, .int .i64 0, .slice none 0 0] 25
  obtain ⟨V1, hV1, hb1, hs1, x7⟩ := boxes1 V0 #[.slice ar n cr, .int .i64 p0, .int .i64 way, .int .i64 step, .slice ap m cp] 25
  have h37 := x6.lt
  have y3 := x3.below hb1; have y6 := x6.below hb1
  have hb2 := hb.trans (hb1.mono hb.size)
  have hbl := below_one (w := V1) (.cells #[] 40)
  have hown := own_litB V1 40 2 (B := V0.heap.size + 1) (by omega)
  have hW0 := hid (show WiS (w.heap.size + 1) V0.heap.size (V0.heap.size + 1) n m ar ap cr cp p0 way step w (.slice (some ⟨V1.heap.size, 0, none⟩) 0 0) 0 [] (V1.alloc (.cells #[] 40)) from
    ⟨y6.below hbl, x7.below hbl, hown, by omega, by omega, by omega, by omega, by have := hbl.size; omega, hb2.trans (hbl.mono hb2.size)⟩)
  have hcP := (hP.below (hb2.trans (hbl.mono hb2.size)) (Nat.le_refl _)).cls
  have hsz := hW0.out.hB
  have y3l := y3.below hbl
  have c0 := x3.cell 0 rfl; have c1 := x3.cell 1 rfl; have c2 := x3.cell 2 rfl; have c3 := x3.cell 3 rfl; have c4 := x3.cell 4 rfl
  have d0 := y3l.cell 0 rfl; have d1 := y3l.cell 1 rfl; have d2 := y3l.cell 2 rfl; have d3 := y3l.cell 3 rfl; have d4 := y3l.cell 4 rfl
  have h67 : w.heap.size + 1 ≠ V0.heap.size := by omega
  have h06 : w.heap.size + 1 < V0.heap.size + 1 := by omega
  clear x6 y6 x3 y3 y3l hb hb1 hb2 hbl hs hs1 h37
  go_enter Try.func83, Try.ntmps83
  go_wp2_with (first | (at_builtin; refine wpList_app rfl (.tmp 9) (.tmp 11) 23 rfl (V0.heap.size + 1) 40 i0 (.agg #[.int .i64 0, .int .i64 0]) 2 16 under23 hq0 iz0 iz1 iz2 rfl (by decide) (.slice (some ⟨V1.heap.size, 0, none⟩) 0 0) 0 [] rfl hown ap m cp (pcells ps) rfl HLN.out hcP (pcells_one ps) (by unfold maxLen; omega) (by omega) hsz ?_; intro v1 W1 hown1 hg1; obtain ⟨aq, cq, rfl, HW1, own2, hcl2, hsz2⟩ := hW0.out.one (x := x) (y := y) hown1 hg1; clear hown1 hg1) | (at_builtin; refine wpList_app rfl (.tmp 12) (.tmp 16) 23 rfl (V0.heap.size + 1) 40 i0 (.agg #[.int .i64 0, .int .i64 0]) 2 16 under23 hq0 iz0 iz1 iz2 rfl (by decide) (.slice aq m cq) m (pcells ps) rfl own2 (some ⟨W1.heap.size, 0, none⟩) 1 1 [.int .i64 x, .int .i64 y] rfl rfl hcl2 (by simp; exact ⟨rfl, rfl⟩) (by unfold maxLen; omega) (by omega) hsz2 ?_; intro v2 W2 hown3 hg3; obtain ⟨ar2, cr2, rfl, fr7, kc7, z7, z6, HZ⟩ := HW1.out.two hown3 hg3 h67; have q0 := z7.cell 0 rfl; have q1 := z7.cell 1 rfl; have q2 := z7.cell 2 rfl; have q3 := z7.cell 3 rfl; have q4 := z7.cell 4 rfl; have s0 := z6.cell 0 rfl; have s1 := z6.cell 1 rfl; have s2 := z6.cell 2 rfl; have s3 := z6.cell 3 rfl; have s4 := z6.cell 4 rfl; have f0 := z6.free 0; have f1 := z6.free 1; have f2 := z6.free 2; have f3 := z6.free 3; have f4 := z6.free 4; clear hown3 hg3))
  have g5 := gset5 (W2.setCell ⟨V0.heap.size, 4, none⟩ (.slice ar2 (m + 1) cr2)) (w.heap.size + 1) (.slice ar n cr) (.int .i64 p0) (.int .i64 way) (.int .i64 step) (.slice ar2 (m + 1) cr2)
  have z6' := z6.set5 (.slice ar n cr) (.int .i64 p0) (.int .i64 way) (.int .i64 step) (.slice ar2 (m + 1) cr2)
  have k0 := z6'.cell 0 rfl; have k1 := z6'.cell 1 rfl; have k2 := z6'.cell 2 rfl; have k3 := z6'.cell 3 rfl; have k4 := z6'.cell 4 rfl
  have hbf := HZ.out.2.grown g5 HZ.out.2.size (fun k hk => by cases hk; omega)
  have hpr := own_prsA8 (own_keep HZ.out.1 g5 (fun k hk e => by have := own_ge2 HZ.out.1 k hk; injection e with e; omega)) (by rw [List.length_append, HM.out]; rfl) (by omega) (fun z hz => by
    rcases List.mem_append.1 hz with h | h
    · exact HPB.out z h
    · rw [List.mem_singleton.1 h]; exact ⟨hxy.1, hxy.2.1, hxy.2.2.1, hxy.2.2.2⟩)
  refine bodyPost_ret (v := .agg #[.slice ar n cr, .int .i64 p0, .int .i64 way, .int .i64 step, .slice ar2 (m + 1) cr2]) ?_ rfl ⟨hbf, ar2, cr2, rfl, hpr⟩
  simp [results, Try.results83, go_sem, k0, k1, k2, k3, k4]
set_option maxRecDepth 100000 in
set_option maxHeartbeats 4000000 in
theorem InTime_any (ar ap : Option Addr) (cr cp : Nat) (rs ps : List (Int × Int)) (p0 way step : Int) (x y by' : Int) (w : World) (hR : Prs w ar rs) (hP : Prs w ap ps) (T : Tr) (hT : IsTr (addP T x y) rs (ps ++ [(x, y)]) p0 way step) (B : Int) (hB : B = begF (addP T x y) x y) :
    Calls Try.prog 70 #[.agg #[.slice ar rs.length cr, .int .i64 p0, .int .i64 way, .int .i64 step, .slice ap ps.length cp], .int .i64 x, .int .i64 y, .int .i64 by'] w fun e w' => e = .returned (.bool (decide (B ≤ by'))) ∧ Below w.heap.size w w' := by
  have hVT := hT.hv
  have hp13 := hVT.p13
  rw [hT.T2, List.length_append, List.length_singleton] at hp13
  have hxy := hVT.pr (x, y) (addP_mem T x y)
  dsimp only at hxy
  have hn6 := hVT.n6
  have hwi := fun V h1 h2 => with_any ar ap cr cp rs ps p0 way step x y V h1 h2 (by omega) (by omega)
  unfold WithP at hwi
  have hc1 := cn_run hVT (Int.le_refl maxI)
  have htm := plays_time hVT
  obtain ⟨P0, hP0⟩ : ∃ P0, P0 = (runM (addP T x y) maxI).plays := ⟨_, rfl⟩
  have hpo := fun a c V h1 h2 => PlaysOf_any ar a cr c rs (ps ++ [(x, y)]) p0 way step V h1 h2 (addP T x y) hT P0 hP0 (fun q hq => by rw [hP0] at hq; have h1 := hc1.d q hq; have h2 := htm q hq; omega)
  unfold PlyP at hpo
  rw [List.length_append, List.length_singleton] at hpo
  have hlen : P0.length ≤ 13 := by
    have := hc1.n
    rw [← hP0, hT.T2, List.length_append, List.length_singleton] at this
    omega
  have hsv := fun a c V h => ServedBy_any a c P0 x y V h (by omega)
  obtain ⟨A, q, B1, e1, _, _, _, e2, e3⟩ := beg_facts hVT (addP_mem T x y)
  rw [← hP0] at e1 e2
  rw [e2] at hsv
  rw [← hB] at e3
  obtain ⟨j, hj⟩ : ∃ j, j = A.length := ⟨_, rfl⟩
  have hqj : P0[j]? = some q := by rw [e1, hj, List.getElem?_append_right (Nat.le_refl _), Nat.sub_self]; rfl
  rw [← hj] at hsv
  obtain ⟨nl, hnl⟩ : ∃ nl, nl = P0.length := ⟨_, rfl⟩
  have hjl : j < nl := by
    rw [hnl]
    rcases Nat.lt_or_ge j P0.length with h | h
    · exact h
    · rw [List.getElem?_eq_none h] at hqj; cases hqj
  rw [← hnl] at hpo hsv hlen
  obtain ⟨n, hn⟩ : ∃ n, n = rs.length := ⟨_, rfl⟩
  obtain ⟨m, hm⟩ : ∃ m, m = ps.length := ⟨_, rfl⟩
  rw [← hn, ← hm] at hwi hpo ⊢
  have HNL := hid hnl; have HQ := hid (And.intro hqj e3)
  clear hnl hqj e1 e2 e3 hj hP0 hn hm hT hc1 htm hB hxy hp13 hVT
  have hjI : (j : Int) < (nl : Int) := by omega
  have hj0 : (0 : Int) ≤ (j : Int) := by omega
  obtain ⟨W, hW, hb, hs, x0⟩ := boxes1 w #[.slice ar n cr, .int .i64 p0, .int .i64 way, .int .i64 step, .slice ap m cp] 25
  clear hs
  have c0 := x0.cell 0 rfl; have c1 := x0.cell 1 rfl; have c2 := x0.cell 2 rfl; have c3 := x0.cell 3 rfl; have c4 := x0.cell 4 rfl
  go_enter Try.func70, Try.ntmps70
  go_wp2_with fail
  refine (hwi _ (hR.below hb (Nat.le_refl _)) (hP.below hb (Nat.le_refl _))).mono ?_
  rintro e W1 ⟨hb1, a, c, rfl, q1⟩
  clear hW hwi
  replace hb := hb.trans (hb1.mono hb.size)
  clear x0 c0 c1 c2 c3 c4 hb1
  go_wp2_with fail
  refine (hpo _ _ _ (hR.below hb (Nat.le_refl _)) q1).mono ?_
  rintro e W2 ⟨hb2, al, cl, rfl, r1⟩
  replace hb := hb.trans (hb2.mono hb.size)
  clear hpo hb2 q1
  go_wp2_with fail
  refine (hsv _ _ _ r1).mono ?_
  rintro e W3 ⟨rfl, hb3⟩
  replace hb := hb.trans (hb3.mono hb.size)
  obtain ⟨b, off, u, t, rfl, _, _, k1, _, _, hx2, _⟩ := (r1.below hb3 (Nat.le_refl _)).at (show j < P0.length by rw [← HNL.out]; exact hjl)
  have hx3 := hx2.out
  rw [HQ.out.1] at hx3
  injection hx3 with hx3
  have htB : t = B := by rw [HQ.out.2, hx3]
  subst htB
  clear hsv hb3 r1 hx2 hx3
  go_wp2
  go_ret
  exact ⟨rfl, hb⟩
set_option maxRecDepth 100000 in
set_option maxHeartbeats 4000000 in
/-- The reference's latest press that is served in time. -/
theorem rLatest_ok (ar ap : Option Addr) (cr cp : Nat) (rs ps : List (Int × Int)) (p0 way step : Int) (x by' : Int) (w : World) (hR : Prs w ar rs) (hP : Prs w ap ps) (hv : trB rs ps p0 way step = true) (hx : inR 0 x (2 * (rs.length : Int) - 1) = true) (hy : inR 0 by' 9999 = true) (T : Tr) (hT : IsTr T rs ps p0 way step) (hlp : ps.length ≤ 12) (k : Nat) (hk1 : (k : Int) ≤ by' + 1) (hk2 : 0 < k → lateP T x by' (k - 1) = false) (hk3 : (k : Int) < by' + 1 → lateP T x by' k = true) :
    Calls Try.prog 48 #[.agg #[.slice ar rs.length cr, .int .i64 p0, .int .i64 way, .int .i64 step, .slice ap ps.length cp], .int .i64 x, .int .i64 by'] w fun e w' => e = .returned (if k = 0 then .tuple #[.int .i64 0, .int .i64 3] else .tuple #[.int .i64 ((k : Int) - 1), .int .i64 0]) ∧ Below w.heap.size w w' := by
  have hxI := inR_iff.1 hx
  have hyI := inR_iff.1 hy
  obtain ⟨Bf, hBf⟩ : ∃ Bf : Int → Int, Bf = fun y => begF (addP T x y) x y := ⟨_, rfl⟩
  have hadd : ∀ y, 0 ≤ y → y ≤ 9999 → IsTr (addP T x y) rs (ps ++ [(x, y)]) p0 way step := fun y h0 h9 => addP_is hT (by omega) (by omega) ⟨h0, h9⟩
  have hBm : ∀ y1 y2, 0 ≤ y1 → y1 ≤ y2 → y2 ≤ 9999 → Bf y1 ≤ Bf y2 := fun y1 y2 h0 h1 h9 => by
    rw [hBf]
    exact beg_mono (hadd y1 h0 (by omega)).hv (hadd y2 (by omega) h9).hv (by rw [hT.T1]; omega) h0 h1 h9
  have hlate : ∀ i : Nat, lateP T x by' i = decide (by' < Bf (i : Int)) := fun i => by rw [hBf]; rfl
  rw [hlate] at hk2 hk3
  simp only [decide_eq_false_iff_not, decide_eq_true_eq] at hk2 hk3
  have hin : ∀ y, 0 ≤ y → y ≤ 9999 → ∀ V, Prs V ar rs → Prs V ap ps → Calls Try.prog 70 #[.agg #[.slice ar rs.length cr, .int .i64 p0, .int .i64 way, .int .i64 step, .slice ap ps.length cp], .int .i64 x, .int .i64 y, .int .i64 by'] V fun e w' => e = .returned (.bool (decide (Bf y ≤ by'))) ∧ Below V.heap.size V w' := fun y h0 h9 V h1 h2 => InTime_any ar ap cr cp rs ps p0 way step x y by' V h1 h2 T (hadd y h0 h9) (Bf y) (by rw [hBf])
  have hrc := fun V h1 h2 => rCheck_any ar ap cr cp rs ps p0 way step V h1 h2
  rw [hv] at hrc
  have hsd := fun V => isSide_29 ar ap cr cp rs ps p0 way step x V hR.1
  rw [hx] at hsd
  have HIN := hid hin; have HBM := hid hBm; have HK2 := hid hk2; have HK3 := hid hk3
  obtain ⟨rv, hrv⟩ : ∃ rv, rv = (if k = 0 then Value.tuple #[.int .i64 0, .int .i64 3] else .tuple #[.int .i64 ((k : Int) - 1), .int .i64 0]) := ⟨_, rfl⟩
  rw [← hrv]
  have HRV := hid hrv
  clear hrv
  clear hadd hBm hlate hin hBf hT hv hx hk2 hk3
  obtain ⟨n, hn⟩ : ∃ n, n = rs.length := ⟨_, rfl⟩
  obtain ⟨m, hm⟩ : ∃ m, m = ps.length := ⟨_, rfl⟩
  rw [← hn, ← hm] at HIN hrc hsd ⊢
  clear hn hm
  obtain ⟨W, hW, hb, hs, x0⟩ := boxes1 w #[.slice ar n cr, .int .i64 p0, .int .i64 way, .int .i64 step, .slice ap m cp] 25
  clear hs
  have c0 := x0.cell 0 rfl; have c1 := x0.cell 1 rfl; have c2 := x0.cell 2 rfl; have c3 := x0.cell 3 rfl; have c4 := x0.cell 4 rfl
  go_enter Try.func48, Try.ntmps48
  go_wp2_with fail
  refine (hrc _ (hR.below hb (Nat.le_refl _)) (hP.below hb (Nat.le_refl _))).mono ?_
  rintro e W1 ⟨rfl, hb1⟩
  clear hW hrc
  (try clear c0 c1 c2 c3 c4); replace x0 := x0.below hb1; have c0 := x0.cell 0 rfl; have c1 := x0.cell 1 rfl; have c2 := x0.cell 2 rfl; have c3 := x0.cell 3 rfl; have c4 := x0.cell 4 rfl; replace hb := hb.trans (hb1.mono hb.size); clear hb1
  go_wp2_with fail
  refine (hsd _).mono ?_
  rintro e W2 ⟨rfl, hb1⟩
  clear hsd
  (try clear c0 c1 c2 c3 c4); replace x0 := x0.below hb1; have c0 := x0.cell 0 rfl; have c1 := x0.cell 1 rfl; have c2 := x0.cell 2 rfl; have c3 := x0.cell 3 rfl; have c4 := x0.cell 4 rfl; replace hb := hb.trans (hb1.mono hb.size); clear hb1
  go_wp2_with fail
  refine (refTime_any _ _).mono ?_
  rintro e W3 ⟨rfl, rfl⟩
  rw [hy]
  go_wp2
  clear c0 c1 c2 c3 c4
  go_loopw [9] (fun v9 wr => ∃ tt : Int, -1 ≤ tt ∧ tt ≤ by' ∧ v9 = .int .i64 tt ∧ Below W2.heap.size W2 wr ∧ Hid (∀ y, tt < y → y ≤ by' → 0 ≤ y → by' < Bf y)) (fun v9 _ => (intOf v9 + 1).toNat)
  case atStart => exact ⟨by', by omega, Int.le_refl _, rfl, Below.refl _ _, fun y h1 h2 => by omega⟩
  case round =>
    obtain ⟨tt, ht1, ht2, rfl, hb1, HL⟩ := hrel
    have x0r := x0.below hb1
    have hbr := hb.trans (hb1.mono hb.size)
    have c0 := x0r.cell 0 rfl; have c1 := x0r.cell 1 rfl; have c2 := x0r.cell 2 rfl; have c3 := x0r.cell 3 rfl; have c4 := x0r.cell 4 rfl
    by_cases htn : 0 ≤ tt
    · have hi1 := HIN.out tt htn (by omega) wr (hR.below hbr (Nat.le_refl _)) (hP.below hbr (Nat.le_refl _))
      by_cases hle : Bf tt ≤ by'
      · have hkt : (k : Int) = tt + 1 := by
          rcases Int.lt_trichotomy (k : Int) (tt + 1) with h | h | h
          · have h1 := HK3.out (by omega)
            have h2 := HBM.out (k : Int) tt (by omega) (by omega) (by omega)
            omega
          · exact h
          · have h1 := HK2.out (by omega)
            have h2 := HL.out ((k - 1 : Nat) : Int) (by omega) (by omega) (by omega)
            omega
        rw [show decide (Bf tt ≤ by') = true by simp [hle]] at hi1
        have HR := hid (show rv = .tuple #[.int .i64 tt, .int .i64 0] by rw [HRV.out, if_neg (by omega), hkt, show tt + 1 - 1 = tt by omega])
        clear hkt hle
        go_wp2_with fail
        refine hi1.mono ?_
        rintro e V5 ⟨rfl, hb5⟩
        have hbf := hbr.trans (hb5.mono hbr.size)
        clear hi1 c0 c1 c2 c3 c4 x0r hb5
        go_wp2
        go_ret2
        exact ⟨by rw [HR.out]; rfl, hbf⟩
      · rw [show decide (Bf tt ≤ by') = false by simp; omega] at hi1
        have HL2 := hid (show ∀ y, tt - 1 < y → y ≤ by' → 0 ≤ y → by' < Bf y from fun y h1 h2 h3 => by
          rcases Int.lt_or_le tt y with h | h
          · exact HL.out y h h2 h3
          · rw [show y = tt by omega]; omega)
        have ewt : IntKind.i64.wrap (tt - 1) = tt - 1 := IntWalk.i64_in _ (by omega)
        go_wp2_with fail
        refine hi1.mono ?_
        rintro e V5 ⟨rfl, hb5⟩
        have hbf := hb1.trans (hb5.mono hb1.size)
        clear hi1 c0 c1 c2 c3 c4 x0r hb5 hle
        go_wp2
        go_roundw
        case rel => exact ⟨tt - 1, by omega, by omega, rfl, hbf, HL2⟩
        case measure => simp [intOf]; omega
    · have hk0 : k = 0 := by
        rcases Nat.eq_zero_or_pos k with h | h
        · exact h
        · have h1 := HK2.out h
          have h2 := HL.out ((k - 1 : Nat) : Int) (by omega) (by omega) (by omega)
          omega
      have htn' : tt < 0 := by omega
      have HR := hid (show rv = .tuple #[.int .i64 0, .int .i64 3] by rw [HRV.out, if_pos hk0])
      clear htn hk0
      go_wp2
      go_ret2
      exact ⟨by rw [HR.out]; rfl, hbr⟩
set_option maxRecDepth 100000 in
set_option maxHeartbeats 1000000 in
theorem rLatest_bad (ar ap : Option Addr) (cr cp : Nat) (rs ps : List (Int × Int)) (p0 way step : Int) (x by' : Int) (w : World) (hR : Prs w ar rs) (hP : Prs w ap ps) (hv : trB rs ps p0 way step = false) :
    Calls Try.prog 48 #[.agg #[.slice ar rs.length cr, .int .i64 p0, .int .i64 way, .int .i64 step, .slice ap ps.length cp], .int .i64 x, .int .i64 by'] w fun e w' => e = .returned (.tuple #[.int .i64 0, .int .i64 20]) ∧ Below w.heap.size w w' := by
  obtain ⟨W, hW, hb, hs, x0⟩ := boxes1 w #[.slice ar rs.length cr, .int .i64 p0, .int .i64 way, .int .i64 step, .slice ap ps.length cp] 25
  clear hs
  have c0 := x0.cell 0 rfl; have c1 := x0.cell 1 rfl; have c2 := x0.cell 2 rfl; have c3 := x0.cell 3 rfl; have c4 := x0.cell 4 rfl
  go_enter Try.func48, Try.ntmps48
  go_wp2_with fail
  refine (rCheck_any _ _ _ _ _ _ _ _ _ _ (hR.below hb (Nat.le_refl _)) (hP.below hb (Nat.le_refl _))).mono ?_
  rintro e W1 ⟨rfl, hb1⟩
  rw [hv]
  clear hW
  (try clear c0 c1 c2 c3 c4); replace x0 := x0.below hb1; have c0 := x0.cell 0 rfl; have c1 := x0.cell 1 rfl; have c2 := x0.cell 2 rfl; have c3 := x0.cell 3 rfl; have c4 := x0.cell 4 rfl; replace hb := hb.trans (hb1.mono hb.size); clear hb1
  clear x0 c0 c1 c2 c3 c4
  go_wp2
  go_ret2
  exact ⟨rfl, hb⟩
set_option maxRecDepth 100000 in
set_option maxHeartbeats 1000000 in
theorem rLatest_arg (ar ap : Option Addr) (cr cp : Nat) (rs ps : List (Int × Int)) (p0 way step : Int) (x by' : Int) (w : World) (hR : Prs w ar rs) (hP : Prs w ap ps) (hv : trB rs ps p0 way step = true) (hx : (inR 0 x (2 * (rs.length : Int) - 1) && inR 0 by' 9999) = false) :
    Calls Try.prog 48 #[.agg #[.slice ar rs.length cr, .int .i64 p0, .int .i64 way, .int .i64 step, .slice ap ps.length cp], .int .i64 x, .int .i64 by'] w fun e w' => e = .returned (.tuple #[.int .i64 0, .int .i64 1]) ∧ Below w.heap.size w w' := by
  have hsd := fun V => isSide_29 ar ap cr cp rs ps p0 way step x V hR.1
  obtain ⟨W, hW, hb, hs, x0⟩ := boxes1 w #[.slice ar rs.length cr, .int .i64 p0, .int .i64 way, .int .i64 step, .slice ap ps.length cp] 25
  clear hs
  cases hxx : inR 0 x (2 * (rs.length : Int) - 1)
  · rw [hxx] at hsd
    clear hx hxx
    have c0 := x0.cell 0 rfl; have c1 := x0.cell 1 rfl; have c2 := x0.cell 2 rfl; have c3 := x0.cell 3 rfl; have c4 := x0.cell 4 rfl
    go_enter Try.func48, Try.ntmps48
    go_wp2_with fail
    refine (rCheck_any _ _ _ _ _ _ _ _ _ _ (hR.below hb (Nat.le_refl _)) (hP.below hb (Nat.le_refl _))).mono ?_
    rintro e W1 ⟨rfl, hb1⟩
    rw [hv]
    clear hW
    (try clear c0 c1 c2 c3 c4); replace x0 := x0.below hb1; have c0 := x0.cell 0 rfl; have c1 := x0.cell 1 rfl; have c2 := x0.cell 2 rfl; have c3 := x0.cell 3 rfl; have c4 := x0.cell 4 rfl; replace hb := hb.trans (hb1.mono hb.size); clear hb1
    go_wp2_with fail
    refine (hsd _).mono ?_
    rintro e W2 ⟨rfl, hb2⟩
    replace hb := hb.trans (hb2.mono hb.size)
    clear x0 c0 c1 c2 c3 c4 hb2 hsd
    go_wp2
    go_ret2
    exact ⟨rfl, hb⟩
  · rw [hxx] at hsd
    have hyy : inR 0 by' 9999 = false := by rw [hxx, Bool.true_and] at hx; exact hx
    clear hx hxx
    have c0 := x0.cell 0 rfl; have c1 := x0.cell 1 rfl; have c2 := x0.cell 2 rfl; have c3 := x0.cell 3 rfl; have c4 := x0.cell 4 rfl
    go_enter Try.func48, Try.ntmps48
    go_wp2_with fail
    refine (rCheck_any _ _ _ _ _ _ _ _ _ _ (hR.below hb (Nat.le_refl _)) (hP.below hb (Nat.le_refl _))).mono ?_
    rintro e W1 ⟨rfl, hb1⟩
    rw [hv]
    clear hW
    (try clear c0 c1 c2 c3 c4); replace x0 := x0.below hb1; have c0 := x0.cell 0 rfl; have c1 := x0.cell 1 rfl; have c2 := x0.cell 2 rfl; have c3 := x0.cell 3 rfl; have c4 := x0.cell 4 rfl; replace hb := hb.trans (hb1.mono hb.size); clear hb1
    go_wp2_with fail
    refine (hsd _).mono ?_
    rintro e W2 ⟨rfl, hb2⟩
    replace hb := hb.trans (hb2.mono hb.size)
    clear x0 c0 c1 c2 c3 c4 hb2 hsd
    go_wp2_with fail
    refine (refTime_any _ _).mono ?_
    rintro e W3 ⟨rfl, rfl⟩
    rw [hyy]
    go_wp2
    go_ret2
    exact ⟨rfl, hb⟩
end Go.Proofs.Ytknaljghpfeikaa
