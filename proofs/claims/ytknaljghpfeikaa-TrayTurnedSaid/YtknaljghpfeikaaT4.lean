import Derived.Test.YtknaljghpfeikaaT3
namespace Go.Proofs.Ytknaljghpfeikaa
open Go.RowKit

theorem Bx.gb {w w' : World} {b : Nat} {vs : Array Value} {T : TypeId} {row : Option Nat} (h : Bx w b vs T) (hg : w.grownBy w' row) (hne : ∀ k, row = some k → b ≠ k) : Bx w' b vs T := by
  have := hg.block b h.lt (fun e => hne b e.symm rfl)
  unfold Bx at *; rw [this]; exact h
theorem under28 : Try.prog.underlying 28 = some (.slice 39) := by kernel_rfl
theorem info39 : (Try.prog.info? 39).map (fun i => (i.zero, i.size, i.bytes)) = some (some (.agg #[.int .i64 0, .int .i64 0]), 2, 16) := by kernel_rfl
theorem car_off {ar ap : Option Addr} {cr cp : Nat} {rs ps : List (Int × Int)} {p0 way step : Int} {v : Value} (c : Car) {k : Nat} (hk : k < 12) :
    (carV ar ap cr cp rs ps p0 way step v c).setIfInBounds (11 + k) (.bool false) = carV ar ap cr cp rs ps p0 way step v { c with pins := fun i => c.pins i && !decide (i = k) } := by
  rcases twelve hk with rfl | rfl | rfl | rfl | rfl | rfl | rfl | rfl | rfl | rfl | rfl | rfl <;> simp [carV]
theorem car_on {ar ap : Option Addr} {cr cp : Nat} {rs ps : List (Int × Int)} {p0 way step : Int} {v : Value} (c : Car) {k : Nat} (hk : k < 12) :
    (carV ar ap cr cp rs ps p0 way step v c).setIfInBounds (11 + k) (.bool true) = carV ar ap cr cp rs ps p0 way step v { c with pins := fun i => decide (i = k) || c.pins i } := by
  rcases twelve hk with rfl | rfl | rfl | rfl | rfl | rfl | rfl | rfl | rfl | rfl | rfl | rfl <;> simp [carV]
theorem car_pin {ar ap : Option Addr} {cr cp : Nat} {rs ps : List (Int × Int)} {p0 way step : Int} {v : Value} (c : Car) {k : Nat} (hk : k < 12) :
    (carV ar ap cr cp rs ps p0 way step v c)[11 + k]? = some (.bool (c.pins k)) := by
  rcases twelve hk with rfl | rfl | rfl | rfl | rfl | rfl | rfl | rfl | rfl | rfl | rfl | rfl <;> rfl

/-- The carriage with the row of its plays, above B. -/
def PlayP (g : Nat) (ar ap : Option Addr) (cr cp : Nat) (rs ps : List (Int × Int)) (p0 way step : Int) (c' : Car) (B : Nat) (w : World) (e : Ending) (w' : World) : Prop :=
  e = .returned (.tuple #[]) ∧ Below B w w' ∧ ∃ (a : Option Addr) (cv : Nat), CarAt w' g ar ap cr cp rs ps p0 way step (.slice a c'.plays.length cv) c' ∧
    w'.ownsRow B 39 2 (.slice a c'.plays.length cv) c'.plays.length (pcells c'.plays) ∧ (Value.slice a c'.plays.length cv).ownBlock ≠ some g

set_option maxRecDepth 100000 in
set_option maxHeartbeats 4000000 in
theorem play_any (ar ap : Option Addr) (cr cp : Nat) (rs ps : List (Int × Int)) (p0 way step : Int) (g : Nat) (a : Option Addr) (cv : Nat) (c : Car) (k : Nat) (B : Nat) (w : World) (hc : CarAt w g ar ap cr cp rs ps p0 way step (.slice a c.plays.length cv) c) (hk : k < 12)
    (hown : w.ownsRow B 39 2 (.slice a c.plays.length cv) c.plays.length (pcells c.plays)) (hne : (Value.slice a c.plays.length cv).ownBlock ≠ some g) (hB : B ≤ g) (hnb : c.plays.length ≤ 100000)
    (w0 : World) (hR : Prs w0 ar rs) (hb0 : Below B w0 w) (hB0 : w0.heap.size ≤ B) (T : Tr) (hT : T.rcs = rs) (hv : VT T) (hkr : k / 2 < rs.length) (ht : 0 ≤ c.time ∧ c.time ≤ 9000000000000) :
    Calls Try.prog 90 #[.pointer (some ⟨g, 0, none⟩), .int .i64 (k : Nat)] w (PlayP g ar ap cr cp rs ps p0 way step (playC T c k) B w) := by
  obtain ⟨i0, hi0, iz0, iz1, iz2⟩ := info_parts info39
  have hkI : (k : Int) < 12 := by omega
  have hk0 : (0 : Int) ≤ (k : Int) := by omega
  have h1 : CarAt (w.setCell ⟨g, 11 + k, none⟩ (.bool false)) g ar ap cr cp rs ps p0 way step (.slice a c.plays.length cv) { c with pins := fun i => c.pins i && !decide (i = k) } := by
    have := Bx.set hc (11 + k) (.bool false)
    rw [car_off c hk] at this
    exact this
  have hg1 := gset w ⟨g, 11 + k, none⟩ (.bool false)
  have fr := Bx.free hc (11 + k)
  have kc := Bx.cell hc (11 + k) (car_pin c hk)
  go_enter Try.func90, Try.ntmps90
  go_upto_region 1 with fail
  generalize w.setCell ⟨g, 11 + k, none⟩ (.bool false) = w1 at *
  have hor : (Value.slice a c.plays.length cv).ownBlock = none ∨ (Value.slice a c.plays.length cv).ownBlock ≠ some g := .inr hne
  have hown1 := hown.kept hg1 hor
  obtain ⟨pn, hpn⟩ : ∃ f : Nat → Bool, f = fun i => c.pins i && !decide (i = k) := ⟨_, rfl⟩
  rw [← hpn] at h1
  have fr2 := Bx.free h1 2
  have k2 := Bx.cell h1 2 (v := .int .i64 c.side) rfl
  have h2 : CarAt (w1.setCell ⟨g, 2, none⟩ (.int .i64 (k : Nat))) g ar ap cr cp rs ps p0 way step (.slice a c.plays.length cv) { c with pins := pn, side := k } := Bx.set h1 2 _
  have hg2 := gtr hg1 (gset w1 ⟨g, 2, none⟩ (.int .i64 (k : Nat)))
  have hown2 := hown1.kept (gset w1 ⟨g, 2, none⟩ (.int .i64 (k : Nat))) hor
  clear fr kc
  go_upto_region 2 with fail
  generalize w1.setCell ⟨g, 2, none⟩ (.int .i64 (k : Nat)) = w2 at *
  clear fr2 k2 hown1 h1 hg1
  have hbd : Below w2.heap.size w2 w2.drew := (Below.refl _ _).drew
  have hown3 := own_below2 hown2 hbd
  have h3 := Bx.below h2 hbd
  have hg3 : w.grownBy w2.drew (some g) := gtr hg2 (gbel hbd)
  clear hbd hown2 h2 hg2
  obtain ⟨n, hn⟩ : ∃ n, n = c.plays.length := ⟨_, rfl⟩
  rw [← hn] at h3 hown3 hne hor
  have hnb2 : n ≤ 100000 := by rw [hn]; exact hnb
  have HN := hid hn
  clear hn
  refine wp_region_head 14 (fun w' => CarAt w' g ar ap cr cp rs ps p0 way step (.slice a n cv) { c with pins := pn, side := k }) (by kernel_rfl) rfl ?_
  generalize w2.drew = Y0 at *
  refine HeadAt.take (i := 0) (.pointer (some ⟨g, 0, none⟩)) rfl (by kernel_rfl) (.inl ⟨rfl, fun _ _ => by simp [go_sem]⟩) h3 ?_
  refine HeadAt.take (i := 1) (.pointer (some ⟨g, 0, none⟩)) rfl (by kernel_rfl) (.inl ⟨rfl, fun _ _ => by simp [go_sem]⟩) h3 ?_
  refine HeadAt.take (i := 2) (.pointer (some ⟨g, 0, none⟩)) rfl (by kernel_rfl) (.inl ⟨rfl, fun _ _ => by simp [go_sem]⟩) h3 ?_
  refine HeadAt.take (i := 3) (.pointer (some ⟨g, 0, none⟩)) rfl (by kernel_rfl) (.inl ⟨rfl, fun _ _ => by simp [go_sem]⟩) h3 ?_
  refine HeadAt.take (i := 4) (.pointer (some ⟨g, 3, none⟩)) rfl (by kernel_rfl) (.inl ⟨rfl, fun _ _ => by simp [go_sem]⟩) h3 ?_
  refine HeadAt.take (i := 5) (.slice a n cv) rfl (by kernel_rfl) (.inl ⟨rfl, fun w' z => ?_⟩) h3 ?_
  · (have z0 := Bx.cell z 3 (v := .slice a n cv) rfl; simp [go_sem, z0])
  refine HeadAt.take (i := 6) (.int .i64 (k : Nat)) rfl (by kernel_rfl) (.inl ⟨rfl, fun _ _ => by simp [go_sem]⟩) h3 ?_
  refine HeadAt.take (i := 7) (.pointer (some ⟨g, 0, none⟩)) rfl (by kernel_rfl) (.inl ⟨rfl, fun _ _ => by simp [go_sem]⟩) h3 ?_
  refine HeadAt.take (i := 8) (.pointer (some ⟨g, 0, none⟩)) rfl (by kernel_rfl) (.inl ⟨rfl, fun _ _ => by simp [go_sem]⟩) h3 ?_
  refine HeadAt.take (i := 9) (.pointer (some ⟨g, 24, none⟩)) rfl (by kernel_rfl) (.inl ⟨rfl, fun _ _ => by simp [go_sem]⟩) h3 ?_
  refine HeadAt.take (i := 10) (.int .i64 c.time) rfl (by kernel_rfl) (.inl ⟨rfl, fun w' z => ?_⟩) h3 ?_
  · (have z0 := Bx.cell z 24 (v := .int .i64 c.time) rfl; simp [go_sem, z0])
  refine HeadAt.take (i := 11) (.agg #[.int .i64 (k : Nat), .int .i64 c.time]) rfl (by kernel_rfl) (.inl ⟨rfl, fun _ _ => by simp [go_sem]⟩) h3 ?_
  have hb4 := below_one (w := Y0) (.cells #[.int .i64 (k : Nat), .int .i64 c.time] 39)
  have h4 := Bx.below h3 hb4
  have hown4 := hown3.alloc (.cells #[.int .i64 (k : Nat), .int .i64 c.time] 39)
  have hcl := Cls.of_bx (Bx.new Y0 #[.int .i64 (k : Nat), .int .i64 c.time] 39)
  have hlt := h4.lt
  have hlt0 := Bx.lt h3
  have hgY := gtr hg3 (gbel hb4)
  refine HeadAt.one (i := 12) rfl (by kernel_rfl) ?_
  generalize hK : Upto _ _ = K0
  (try simp only [Act.put, List.getElem_toArray, List.getElem_cons_succ, List.getElem_cons_zero, List.setIfInBounds_toArray, List.set_cons_succ, List.set_cons_zero])
  go_wp2_with fail
  subst hK
  refine ⟨h4, ?_⟩
  refine HeadAt.one (i := 13) rfl (by kernel_rfl) ?_
  generalize hK : Upto _ _ = K0
  (try simp only [List.getElem_toArray, List.getElem_cons_succ, List.getElem_cons_zero])
  go_wp2_with (at_builtin; refine wpList_appAt rfl (.tmp 20) (.tmp 27) 28 rfl B 39 i0 (.agg #[.int .i64 0, .int .i64 0]) 2 16 under28 hi0 iz0 iz1 iz2 rfl (by decide) (.slice a n cv) n (pcells c.plays) rfl hown4 (some ⟨Y0.heap.size, 0, none⟩) 1 1 [.int .i64 (k : Nat), .int .i64 c.time] rfl rfl hcl (by simp; exact ⟨rfl, rfl⟩) (by unfold maxLen; omega) (by omega) (by omega) ?_; intro v5 W5 hown5 hg5 hat)
  obtain ⟨a5, c5, rfl⟩ := own_slice2 hown5
  have h5 := Bx.gb h4 hg5 (fun j hj e => hne (by rw [hj, e]))
  have hne5 : (Value.slice a5 (n + 1) c5).ownBlock ≠ some g := by
    rcases hat with h | h
    · rw [h]; exact hne
    · rw [h]; intro e; injection e with e; omega
  have hlw := Bx.lt hc
  have hbw : Below B w (Y0.alloc (.cells #[.int .i64 (k : Nat), .int .i64 c.time] 39)) := (Below.refl B w).grown hgY (by omega) (fun j hj => by cases hj; exact hB)
  have hb5 : Below B w W5 := hbw.grown hg5 (by omega) (own_ge2 hown4)
  have hpc : pcells (c.plays ++ [(((k : Nat) : Int), c.time)]) = pcells c.plays ++ [.int .i64 (k : Nat), .int .i64 c.time] := by rw [pcells_app]; rfl
  rw [← hpc] at hown5
  subst hK
  refine ⟨h5, ?_⟩
  have fr3 := Bx.free h5 3
  have k3 := Bx.cell h5 3 (v := .slice a n cv) rfl
  have h6 : CarAt (W5.setCell ⟨g, 3, none⟩ (.slice a5 (n + 1) c5)) g ar ap cr cp rs ps p0 way step (.slice a5 (n + 1) c5) { c with pins := pn, side := k, plays := c.plays ++ [(((k : Nat) : Int), c.time)] } := Bx.set h5 3 _
  have hown6 := hown5.kept (gset W5 ⟨g, 3, none⟩ (.slice a5 (n + 1) c5)) (.inr hne5)
  have hb6 := hb5.setCell (p := ⟨g, 3, none⟩) hB (.slice a5 (n + 1) c5)
  clear hpc hown4 hcl hg5 hat hown5 hb5 hbw h4 hb4 hgY h3 hown3 hg3
  refine HeadAt.done (by kernel_rfl) ?_
  (try simp only [List.drop_succ_cons, List.drop_zero])
  go_wp2_with fail
  refine NoPanic.normal ?_
  have hb6' := hb0.trans hb6
  generalize W5.setCell ⟨g, 3, none⟩ (.slice a5 (n + 1) c5) = w6 at *
  clear fr3 k3 h5
  obtain ⟨kk, hkk⟩ : ∃ q, q = k / 2 := ⟨_, rfl⟩
  rw [← hkk] at hkr
  have hkq : Int.tdiv (k : Int) 2 = (kk : Int) := by rw [hkk]; rfl
  obtain ⟨b, off, x, y, rfl, hbs, hc1, hc2, _, _, hx, _⟩ := (hR.below hb6' hB0).at hkr
  have hkkI : (kk : Int) < (rs.length : Int) := by omega
  have hkk0 : (0 : Int) ≤ (kk : Int) := by omega
  have ewk : IntKind.i64.wrap (kk : Int) = (kk : Int) := IntWalk.i64_in _ (by omega)
  obtain ⟨sc, hsc⟩ : ∃ q, q = secs T k := ⟨_, rfl⟩
  have hse := fun W => seconds_any (x, y) k W (by omega)
  have hsv : (if k % 2 = 0 then (x, y).1 else (x, y).2) = sc := by
    have e : rs.getD kk (0, 0) = (x, y) := by rw [List.getD_eq_getElem?_getD, hx.out]; rfl
    rw [hsc]
    unfold secs
    rw [hT, ← hkk, e]
  rw [hsv] at hse
  have hscb := secs_le hv (k := k) (by rw [hT]; omega)
  rw [← hsc] at hscb
  have ew : IntKind.i64.wrap (c.time + sc) = c.time + sc := IntWalk.i64_in _ (by omega)
  have HSC := hid hsc; have HPN := hid hpn
  clear hsv hsc hx hpn hkk
  go_upto_region 3 with fail
  have v6 := Ext.cell (Bx.cell h6 6 (v := .slice (some ⟨b, off, none⟩) rs.length cr) rfl)
  have v24 := Ext.cell (Bx.cell h6 24 (v := .int .i64 c.time) rfl)
  have d1 := Ext.cell hc1; have d2 := Ext.cell hc2
  refine wp_region_ext_tail 16 (by kernel_rfl) (by kernel_rfl) ?_
  simp only [List.take_succ_cons, List.take_zero, List.drop_succ_cons, List.drop_zero]
  repeat (quiet_step (first | (go_at_call 94; exact quiet_ext (hse _))))
  refine wpQuiet_nil ?_
  intro _ hw'
  obtain ⟨t, rfl⟩ := hw'
  have hb := t.below
  have h7 := Bx.below h6 hb
  have hown7 := own_below2 hown6 hb
  have hs6 : B ≤ w6.heap.size := by have := Bx.lt h6; omega
  have hb7 := hb6.trans (hb.mono hs6)
  clear v6 v24 d1 d2 hc1 hc2 hse h6 hown6 hb6 hb6'
  generalize t.w = w7 at *
  have fr24 := Bx.free h7 24
  have k24 := Bx.cell h7 24 (v := .int .i64 c.time) rfl
  have h8 : CarAt (w7.setCell ⟨g, 24, none⟩ (.int .i64 (c.time + sc))) g (some ⟨b, off, none⟩) ap cr cp rs ps p0 way step (.slice a5 (n + 1) c5) { c with pins := pn, side := k, plays := c.plays ++ [(((k : Nat) : Int), c.time)], time := c.time + sc } := Bx.set h7 24 _
  have hown8 := hown7.kept (gset w7 ⟨g, 24, none⟩ (.int .i64 (c.time + sc))) (.inr hne5)
  have hb8 := hb7.setCell (p := ⟨g, 24, none⟩) hB (.int .i64 (c.time + sc))
  go_upto_region 4 with fail
  generalize w7.setCell ⟨g, 24, none⟩ (.int .i64 (c.time + sc)) = w8 at *
  clear fr24 k24 h7 hown7 hb7
  have fr5 := Bx.free h8 5
  have k5 := Bx.cell h8 5 (v := .int .i64 c.fin) rfl
  have k24 := Bx.cell h8 24 (v := .int .i64 (c.time + sc)) rfl
  have hpl : playC T c k = { c with pins := pn, side := k, plays := c.plays ++ [(((k : Nat) : Int), c.time)], time := c.time + sc, fin := c.time + sc } := by rw [HPN.out, HSC.out]; rfl
  have h9 : CarAt (w8.setCell ⟨g, 5, none⟩ (.int .i64 (c.time + sc))) g (some ⟨b, off, none⟩) ap cr cp rs ps p0 way step (.slice a5 (n + 1) c5) (playC T c k) := by rw [hpl]; exact Bx.set h8 5 _
  have hown9 := hown8.kept (gset w8 ⟨g, 5, none⟩ (.int .i64 (c.time + sc))) (.inr hne5)
  have hb9 := hb8.setCell (p := ⟨g, 5, none⟩) hB (.int .i64 (c.time + sc))
  have hln : (playC T c k).plays.length = n + 1 := by rw [hpl]; show (c.plays ++ [_]).length = _; rw [List.length_append, HN.out]; rfl
  have hpls : (playC T c k).plays = c.plays ++ [(((k : Nat) : Int), c.time)] := by rw [hpl]
  have HL := hid (And.intro hln hpls)
  clear hpl hln hpls h8 hown8 hb8
  go_wp2
  go_end0
  exact ⟨rfl, hb9, a5, c5, by rw [HL.out.1]; exact h9, by rw [HL.out.1, HL.out.2]; exact hown9, by rw [HL.out.1]; exact hne5⟩
end Go.Proofs.Ytknaljghpfeikaa
