import Derived.Test.YtknaljghpfeikaaT32
namespace Go.Proofs.Ytknaljghpfeikaa
open Go.RowKit

/-- All that is there is as it was, but the blocks of S. -/
structure Ch (S : Nat → Prop) (w w' : World) : Prop where
  os : w'.os = w.os
  tape : w'.tape = w.tape
  output : w'.output = w.output
  size : w.heap.size ≤ w'.heap.size
  block : ∀ k, k < w.heap.size → ¬ S k → w'.heap[k]? = w.heap[k]?
theorem Ch.refl (S : Nat → Prop) (w : World) : Ch S w w := ⟨rfl, rfl, rfl, Nat.le_refl _, fun _ _ _ => rfl⟩
theorem Ch.trans {S : Nat → Prop} {a b c : World} (h : Ch S a b) (k : Ch S b c) : Ch S a c :=
  ⟨k.os.trans h.os, k.tape.trans h.tape, k.output.trans h.output, Nat.le_trans h.size k.size, fun i hi hn => (k.block i (Nat.lt_of_lt_of_le hi h.size) hn).trans (h.block i hi hn)⟩
theorem Ch.mono {S R : Nat → Prop} {a b : World} (h : Ch S a b) (hs : ∀ k, S k → R k) : Ch R a b := ⟨h.os, h.tape, h.output, h.size, fun k hk hn => h.block k hk fun e => hn (hs k e)⟩
theorem Ch.of_below {S : Nat → Prop} {a b : World} (h : Below a.heap.size a b) : Ch S a b := ⟨h.os, h.tape, h.output, h.size, fun k hk _ => h.block k hk⟩
theorem Ch.of_grown {S : Nat → Prop} {a b : World} {r : Option Nat} (h : a.grownBy b r) (hr : ∀ k, r = some k → S k) : Ch S a b := ⟨h.os, h.tape, h.output, h.size, fun k hk hn => h.block k hk fun e => hn (hr k e.symm)⟩
theorem Ch.to_below {S : Nat → Prop} {a b : World} {B : Nat} (h : Ch S a b) (hs : ∀ k, S k → B ≤ k) (hB : B ≤ a.heap.size) : Below B a b := ⟨h.os, h.tape, h.output, h.size, fun k hk => h.block k (by omega) fun e => by have := hs k e; omega⟩
theorem Bx.ch {S : Nat → Prop} {w w' : World} {b : Nat} {vs : Array Value} {T : TypeId} (h : Bx w b vs T) (hc : Ch S w w') (hn : ¬ S b) : Bx w' b vs T := by
  have := h.lt
  unfold Bx at *
  rw [hc.block b this hn]
  exact h
theorem own_ch {S : Nat → Prop} {w w' : World} {base size : Nat} {e : TypeId} {v : Value} {n : Nat} {xs : List Value} (h : w.ownsRow base e size v n xs) (hc : Ch S w w') (hn : ∀ k, v.ownBlock = some k → ¬ S k) : w'.ownsRow base e size v n xs := by
  refine ⟨h.1, ?_⟩
  rcases h.2 with h' | ⟨g, cap, cur, h1, h2, hg, h3⟩
  · exact .inl h'
  · refine .inr ⟨g, cap, cur, h1, h2, ?_, h3⟩
    rw [hc.block g (Array.getElem?_eq_some_iff.1 hg).1 (hn g (by rw [h1]; rfl))]
    exact hg

/-- Two numbers exchanged. -/
def swapL (l : List Int) (i j : Nat) : List Int := (l.set i (l.getD j 0)).set j (l.getD i 0)
/-- All orders that fill makes from a place on. -/
def perms : Nat → Nat → List Int → List (List Int)
  | 0, _, l => [l]
  | d + 1, from', l => (List.range (d + 1)).flatMap fun k => perms d (from' + 1) (swapL l from' (from' + k))
theorem swapL_len (l : List Int) (i j : Nat) : (swapL l i j).length = l.length := by simp [swapL]
theorem swapL_mem {l : List Int} {i j : Nat} {n : Int} (hn : 0 < n) (h : ∀ x ∈ l, 0 ≤ x ∧ x < n) : ∀ x ∈ swapL l i j, 0 ≤ x ∧ x < n := by
  have hg : ∀ k, 0 ≤ l.getD k 0 ∧ l.getD k 0 ≤ n - 1 := getD_bound (b := n - 1) (by omega) (fun x hx => by have := h x hx; omega)
  have h1 := set_bound (b := n - 1) (L := l) (fun x hx => by have := h x hx; omega) i (hg j)
  have h2 := set_bound (b := n - 1) h1 j (hg i)
  intro x hx
  have := h2 x hx
  omega
theorem swapL_swap {l : List Int} {i j : Nat} (hi : i < l.length) (hj : j < l.length) : swapL (swapL l i j) i j = l := by
  apply List.ext_getElem?
  intro k
  unfold swapL
  by_cases hij : i = j
  · subst hij
    simp [hi]
  · have hji : ¬ j = i := fun e => hij e.symm
    simp [List.getElem?_set, hi, hj, hji]
    by_cases h1 : j = k
    · subst h1; simp [hj]
    · by_cases h2 : i = k
      · subst h2; simp [hi, h1]
      · simp [h1, h2]

/-- A tray with its records in an order. -/
def ordT (T : Tr) (os : List Int) : Tr := { T with rcs := ordR T.rcs os, prs := ordP os T.prs }
theorem ordT_is {T : Tr} {rs ps : List (Int × Int)} {p0 way step : Int} (hT : IsTr T rs ps p0 way step) {os : List Int} (hl : os.length = rs.length) (ho : ∀ x ∈ os, 0 ≤ x ∧ x < (rs.length : Int)) : IsTr (ordT T os) (ordR rs os) (ordP os ps) p0 way step := by
  obtain ⟨h1, h2, h3, h4, h5, hv⟩ := hT
  have hlen : (ordR T.rcs os).length = T.rcs.length := by rw [ordR_len, hl, h1]
  refine ⟨by unfold ordT; simp [h1], by unfold ordT; simp [h2], h3, h4, h5, ⟨?_, ?_, ?_, ?_, hv.st, ?_, ?_⟩⟩
  · show 1 ≤ (ordR T.rcs os).length; rw [hlen]; exact hv.n1
  · show (ordR T.rcs os).length ≤ 6; rw [hlen]; exact hv.n6
  · intro r hr
    obtain ⟨x, hx, rfl⟩ := List.mem_map.1 (show r ∈ ordR T.rcs os from hr)
    have hx2 := ho x hx
    have hlt : x.toNat < T.rcs.length := by rw [h1]; omega
    rw [List.getD_eq_getElem?_getD, List.getElem?_eq_getElem hlt]
    exact hv.rc _ (List.getElem_mem hlt)
  · show T.at0 < (ordR T.rcs os).length; rw [hlen]; exact hv.at0
  · show (ordP os T.prs).length ≤ 13; rw [ordP_len]; exact hv.p13
  · intro p hp
    obtain ⟨q, hq, rfl⟩ := List.mem_map.1 (show p ∈ ordP os T.prs from hp)
    have hq2 := hv.pr q hq
    have hn1 := hv.n1
    have hb := getD_bound (b := (rs.length : Int) - 1) (by rw [← h1]; omega) (plcs_bound (b := (rs.length : Int) - 1) os 0 [0, 0, 0, 0, 0, 0] (by rw [← h1]; simp; omega) (by omega)) (q.1.toNat / 2)
    show 0 ≤ (ordP1 (plc os) q).1 ∧ (ordP1 (plc os) q).1 < 2 * ((ordR T.rcs os).length : Int) ∧ 0 ≤ q.2 ∧ q.2 ≤ 9999
    rw [hlen, h1]
    unfold ordP1 plc
    dsimp only
    omega
/-- When the last side has ended if the records stand in an order. -/
def endO (T : Tr) (os : List Int) : Int := (runM (ordT T os) maxI).fin
def visB (T : Tr) (s : List Int × Int) (os : List Int) : List Int × Int := if endO T os < s.2 then (os, endO T os) else s

/-- The best order up to now, and its end, in the cells bB and bE. -/
def BestAt (g b bB bE : Nat) (s : List Int × Int) (w : World) : Prop :=
  Bx w bE #[.int .i64 s.2] 3 ∧ -9223372036854775808 ≤ s.2 ∧ s.2 ≤ 9223372036854775807 ∧ s.1.length ≤ 6 ∧ ∃ v, Bx w bB #[v] 35 ∧ w.ownsRow b 3 1 v s.1.length (s.1.map (Value.int .i64)) ∧ (∀ k, v.ownBlock = some k → k ≠ g ∧ k ≠ bB ∧ k ≠ bE)

set_option maxRecDepth 100000 in
set_option maxHeartbeats 4000000 in
theorem visit_any (ar ap : Option Addr) (cr cp : Nat) (rs ps : List (Int × Int)) (p0 way step : Int) (T : Tr) (hT : IsTr T rs ps p0 way step) (hpl : ps.length ≤ 12) (b0 bB bE g cap B : Nat) (os : List Int) (s : List Int × Int) (w0 w : World) (hR : Prs w0 ar rs) (hP : Prs w0 ap ps) (hb0 : Below w0.heap.size w0 w)
    (hx : Bx w b0 #[.slice ar rs.length cr, .int .i64 p0, .int .i64 way, .int .i64 step, .slice ap ps.length cp] 25) (hl : os.length = rs.length) (ho : ∀ x ∈ os, 0 ≤ x ∧ x < (rs.length : Int)) (hO : Ints w (some ⟨g, 0, none⟩) os) (hs : BestAt g B bB bE s w) (hne : bB ≠ bE) (_h0B : b0 ≠ bB) (_h0E : b0 ≠ bE) (hBg : B ≤ bB ∧ B ≤ bE) (_hwB : w0.heap.size ≤ B) (hg : g < w.heap.size) :
    Calls Try.prog 80 #[.slice (some ⟨g, 0, none⟩) os.length cap, .pointer (some ⟨b0, 0, none⟩), .pointer (some ⟨bE, 0, none⟩), .pointer (some ⟨bB, 0, none⟩)] w fun e w' => e = .returned (.tuple #[]) ∧ BestAt g B bB bE (visB T s os) w' ∧ Ch (fun k => k = bB ∨ k = bE) w w' := by
  have hTo := ordT_is hT hl ho
  have hn6 := hT.hv.n6
  rw [hT.T1] at hn6
  have hpr : ∀ p ∈ ps, 0 ≤ p.1 ∧ p.1 < 12 := fun p hp => by have := hT.hv.pr p (by rw [hT.T2]; exact hp); rw [hT.T1] at this; omega
  have hord := ordered_any (some ⟨g, 0, none⟩) cap os ar ap cr cp rs ps p0 way step w (hR.below hb0 (Nat.le_refl _)) (hP.below hb0 (Nat.le_refl _)) hO hn6 ho (by omega) hpr (by omega)
  unfold OrdP at hord
  have hdo := fun a1 a2 c1 c2 W h1 h2 => deedsOf_any a1 a2 c1 c2 (ordR rs os) (ordP os ps) p0 way step W h1 h2 (ordT T os) hTo
  unfold DeedP at hdo
  have hfb := (rng_run hTo.hv (Int.le_refl maxI)).fb
  unfold visB endO
  obtain ⟨c, hc⟩ : ∃ c, c = runM (ordT T os) maxI := ⟨_, rfl⟩
  rw [← hc] at hdo hfb ⊢
  obtain ⟨f, hf⟩ : ∃ f, f = c.fin := ⟨_, rfl⟩
  rw [← hf] at hfb ⊢
  obtain ⟨hE, hE1, hE2, hbl, v, hB, hrow, hv⟩ := hs
  obtain ⟨best, E⟩ := s
  dsimp only at hE hE1 hE2 hbl hrow ⊢
  obtain ⟨n, hn⟩ : ∃ n, n = os.length := ⟨_, rfl⟩
  rw [← hn] at hord ⊢
  have HN := hid hn
  have hn6' : n ≤ 6 := by omega
  have HL := hid hl
  have HF := hid hf
  clear hn hl hc hTo hpr hf
  obtain ⟨r, hr⟩ : ∃ r, r = (if f < E then (os, f) else (best, E)) := ⟨_, rfl⟩
  rw [← hr]
  have HRR := hid hr
  clear hr
  have c0 := hx.cell 0 rfl; have c1 := hx.cell 1 rfl; have c2 := hx.cell 2 rfl; have c3 := hx.cell 3 rfl; have c4 := hx.cell 4 rfl
  go_enter Try.func80, Try.ntmps80
  go_wp2_with fail
  refine hord.mono ?_
  rintro e W1 ⟨hb1, a1, a2, c1', c2', rfl, hR1, hP1⟩
  clear hord c0 c1 c2 c3 c4
  go_wp2_with fail
  refine (hdo a1 a2 c1' c2' _ hR1 hP1).mono ?_
  rintro e W2 ⟨hb2, a, cv, rfl, hpr⟩
  unfold deedV
  rw [← HF.out]
  obtain ⟨d, hd⟩ : ∃ d : Int, d = if c.up then 1 else -1 := ⟨_, rfl⟩
  rw [← hd]
  clear hd hpr hdo hR1 hP1
  have hF3 := fun W => (deed_f (.int .i64 (c.pos : Nat)) (.int .i64 d) (.int .i64 c.side) a c.plays.length cv (c.steps : Nat) f W).2.2
  have hb := hb1.trans (hb2.mono hb1.size)
  have hE' := hE.below hb
  have hB' := hB.below hb
  have hO' := hO.below hb (Nat.le_refl _)
  have hrow' := own_below2 hrow hb
  have e0 := hE'.cell 0 rfl
  clear hb1 hb2
  by_cases hlt : f < E
  · have hcl := cloneI_any (some ⟨g, 0, none⟩) cap os W2 hO' (by have := HN.out; omega)
    rw [← HN.out] at hcl
    unfold ClonePost at hcl
    go_wp2_with fail
    refine hcl.mono ?_
    rintro e W3 ⟨hb3, vn, rfl, hown⟩
    obtain ⟨an, cn, rfl⟩ := own_slice2 hown
    have hE3 := hE'.below hb3
    have hB3 := hB'.below hb3
    have hs2 := hb.size
    have hEl := hE.lt
    have hBl := hB.lt
    have hge := own_ge2 hown
    have e0' := hE3.cell 0 rfl; have e1' := hE3.free 0
    have b0' := hB3.cell 0 rfl; have b1' := hB3.free 0
    have gB := gset W3 ⟨bB, 0, none⟩ (.slice an os.length cn)
    have gE := gset (W3.setCell ⟨bB, 0, none⟩ (.slice an os.length cn)) ⟨bE, 0, none⟩ (.int .i64 f)
    have hE4 := hE3.gb gB (fun k hk => by cases hk; exact fun e => hne e.symm)
    have e2' := hE4.cell 0 rfl; have e3' := hE4.free 0
    have hB4 : Bx (W3.setCell ⟨bB, 0, none⟩ (.slice an os.length cn)) bB #[.slice an os.length cn] 35 := hB3.set 0 (.slice an os.length cn)
    have hE5 : Bx ((W3.setCell ⟨bB, 0, none⟩ (.slice an os.length cn)).setCell ⟨bE, 0, none⟩ (.int .i64 f)) bE #[.int .i64 f] 3 := hE4.set 0 _
    have hB5 := hB4.gb gE (fun k hk => by cases hk; exact hne)
    have hown5 := own_keep (own_keep hown gB (fun k hk e => by have := hge k hk; injection e with e; have e' : bB = k := e; omega)) gE (fun k hk e => by have := hge k hk; injection e with e; have e' : bE = k := e; omega)
    have hch : Ch (fun k => k = bB ∨ k = bE) w ((W3.setCell ⟨bB, 0, none⟩ (.slice an os.length cn)).setCell ⟨bE, 0, none⟩ (.int .i64 f)) :=
      ((Ch.of_below (hb.trans (hb3.mono hb.size))).trans (Ch.of_grown gB (fun k hk => by cases hk; exact .inl rfl))).trans (Ch.of_grown gE (fun k hk => by cases hk; exact .inr rfl))
    have HX := hid (show BestAt g B bB bE r ((W3.setCell ⟨bB, 0, none⟩ (.slice an os.length cn)).setCell ⟨bE, 0, none⟩ (.int .i64 f)) ∧ Ch (fun k => k = bB ∨ k = bE) w ((W3.setCell ⟨bB, 0, none⟩ (.slice an os.length cn)).setCell ⟨bE, 0, none⟩ (.int .i64 f)) by
      refine ⟨?_, hch⟩
      rw [HRR.out, if_pos hlt]
      exact ⟨hE5, by show _ ≤ f; omega, by show f ≤ _; omega, by show os.length ≤ 6; have := HN.out; omega, (.slice an os.length cn), hB5, by show World.ownsRow _ B 3 1 (.slice an os.length cn) os.length _; exact own_base (base := W2.heap.size) hown5 (by omega), fun k hk => by have := hge k hk; omega⟩)
    clear hE' hB' hrow' hO' hE hB hrow hO hx hb hv hE3 hB3 gB gE hE4 hB4 hE5 hB5 hown5 hch hown hb3 hcl hge e0
    go_wp2
    go_end0
    exact ⟨rfl, HX.out⟩
  · have HX := hid (show BestAt g B bB bE r W2 ∧ Ch (fun k => k = bB ∨ k = bE) w W2 by
      refine ⟨?_, Ch.of_below hb⟩
      rw [HRR.out, if_neg hlt]
      exact ⟨hE', hE1, hE2, hbl, v, hB', hrow', hv⟩)
    clear hE' hB' hrow' hO' hE hB hrow hO hx hb hv
    go_wp2
    go_end0
    exact ⟨rfl, HX.out⟩
end Go.Proofs.Ytknaljghpfeikaa
