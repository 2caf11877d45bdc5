import Derived.Test.YtipdohpbilabiaaD4
/-! All plans that fit, yielded one by one. -/
namespace Go.Proofs.Ytipdohpbilabiaa
set_option linter.unusedSimpArgs false
set_option linter.unusedVariables false
open Go.RowKit

attribute [local go_sem] Oper.semAt_some

def plansF (V : Vz) : Nat → Pl → Nat → List Pl
  | 0, p, _ => if hasC V p then [p] else []
  | r + 1, p, box => (List.range (2 ^ V.st.length)).flatMap fun t => if cnt t == cnt (V.now.get box) && fitB V (p.set box t) box then plansF V r (p.set box t) (box + 1) else []
/-- All plans that fit. -/
def plansV (V : Vz) : List Pl := plansF V V.nb pl0 0
def encP (p : Pl) : Array Value := #[.agg #[.int .u8 (p.a : Int), .int .u8 (p.b : Int), .int .u8 (p.c : Int)]]

theorem Kept.setNew {n0 B : Nat} {a b : World} (h : Kept n0 B a b) {p : Addr} (h1 : n0 ≤ p.block) (h2 : a.heap.size ≤ p.block) (v : Value) : Kept n0 B a (b.setCell p v) :=
  ⟨h.below.setCell h1 v, fun k hk hl => (Below.heap_setCell _ _ _ _ (by omega)).trans (h.over k hk hl)⟩


set_option maxRecDepth 100000 in
set_option maxHeartbeats 3000000 in
theorem fill_zero (ab ast ae ak : Option Addr) (cb cs ce nk ck : Nat) (V : Vz) (hV : VOk V) (l n0 B : Nat) (w0 : World) (hR : Vis w0 ast ae V) (hn0 : w0.heap.size ≤ n0) (hB : n0 ≤ B) (XS : List Pl) (J : List Pl → World → Prop) (hJ : ∀ pre W1 W2, J pre W1 → Below B W1 W2 → J pre W2)
    (hY : ∀ pre x, (∃ rest, XS = pre ++ x :: rest) → ∀ W1, J pre W1 → YieldAt Fence.wide 0 Try.prog l (encP x) W1 fun e W' => e = .returned (.bool true) ∧ J (pre ++ [x]) W' ∧ Kept n0 B W1 W')
    (p : Pl) (hp : p.ok (2 ^ V.st.length)) (pre post : List Pl) (W : World) (hX : XS = pre ++ plansF V 0 p V.nb ++ post) (hj : J pre W) (hw : Below n0 w0 W) (hBW : B ≤ W.heap.size) :
    Calls Try.prog 94 #[.agg #[.slice ab V.nb cb, .slice ast V.st.length cs, .slice ae V.er.length ce, .slice ak nk ck, .int .i64 V.ch, .int .u8 (V.now.a : Int), .int .u8 (V.now.b : Int), .int .u8 (V.now.c : Int), .int .u8 (V.stay.a : Int), .int .u8 (V.stay.b : Int), .int .u8 (V.stay.c : Int)], .agg #[.int .u8 (p.a : Int), .int .u8 (p.b : Int), .int .u8 (p.c : Int)], .int .i64 (V.nb : Int), .func (.yield l) #[] #[]] W fun e W' => e = .returned (.bool true) ∧ J (pre ++ plansF V 0 p V.nb) W' ∧ Kept n0 B W W' := by
  obtain ⟨W1, hW1, hb1, hs1, x0, x1⟩ := boxes2 W #[.slice ab V.nb cb, .slice ast V.st.length cs, .slice ae V.er.length ce, .slice ak nk ck, .int .i64 V.ch, .int .u8 (V.now.a : Int), .int .u8 (V.now.b : Int), .int .u8 (V.now.c : Int), .int .u8 (V.stay.a : Int), .int .u8 (V.stay.b : Int), .int .u8 (V.stay.c : Int)] 72 #[.int .u8 (p.a : Int), .int .u8 (p.b : Int), .int .u8 (p.c : Int)] 70
  have hhc := hasCopies_any ab ast ae ak cb cs ce nk ck V hV p (hp.le hV.p64) W1 ((hR.1.below hw hn0).below hb1 (Nat.le_refl _))
  have hj1 := hJ _ _ _ hj (hb1.mono hBW)
  have hk1 : Kept n0 B W W1 := Kept.of_below hb1 (by omega)
  have c0 := x0.cell 0 rfl; have c1 := x0.cell 1 rfl; have c2 := x0.cell 2 rfl; have c3 := x0.cell 3 rfl; have c4 := x0.cell 4 rfl; have c5 := x0.cell 5 rfl; have c6 := x0.cell 6 rfl; have c7 := x0.cell 7 rfl; have c8 := x0.cell 8 rfl; have c9 := x0.cell 9 rfl; have c10 := x0.cell 10 rfl; have d0 := x1.cell 0 rfl; have d1 := x1.cell 1 rfl; have d2 := x1.cell 2 rfl
  have hpf : plansF V 0 p V.nb = if hasC V p then [p] else [] := rfl
  rw [hpf] at hX ⊢
  refine callsIn_wide (n := 0).1 (callsIn_of_wp Try.func94 rfl trivial ?_ rfl)
  simp only [Try.ntmps94, List.size_toArray, List.length_cons, List.length_nil, Nat.reduceAdd, Nat.reduceSub, Array.replicate_succ, Array.replicate_zero, List.push_toArray, List.append_toArray, List.nil_append, List.cons_append, List.append_nil]
  cases hc : hasC V p
  · rw [hc] at hX hhc
    simp only [Bool.false_eq_true, if_false, List.append_nil] at hX ⊢
    gi_wp2_with (refine ⟨trivial, rfl, (callsIn_wide.2 hhc).mono ?_⟩; clear hhc; rintro e W2 ⟨rfl, hb2⟩)
    refine ⟨fun _ h => (by cases h), ?_⟩
    gi_wp2
    go_ret
    exact ⟨rfl, hJ _ _ _ hj1 (hb2.mono (by omega)), hk1.trans (Kept.of_below hb2 (by omega))⟩
  · rw [hc] at hX hhc
    simp only [if_true] at hX ⊢
    have hy0 := hY pre p ⟨post, by rw [hX]; simp⟩
    gi_wp2_with (first | (refine ⟨trivial, rfl, (callsIn_wide.2 hhc).mono ?_⟩; clear hhc; rintro e W2 ⟨rfl, hb2⟩; obtain ⟨fn, tmps, assign, body, hy, hR2⟩ := hy0 W2 (hJ _ _ _ hj1 (hb2.mono (by omega))); simp only [encP] at hy; have hk2 := hk1.trans (Kept.of_below (B := B) hb2 (by omega)); (try clear c0 c1 c2 c3 c4 c5 c6 c7 c8 c9 c10 d0 d1 d2); replace x1 := x1.below hb2; have d0 := x1.cell 0 rfl; have d1 := x1.cell 1 rfl; have d2 := x1.cell 2 rfl) | (refine ⟨rfl, hR2.mono ?_⟩; clear hR2; rintro e W3 ⟨rfl, hj3, hk3⟩))
    gi_wp2
    go_ret
    exact ⟨rfl, hj3, hk2.trans hk3⟩

theorem set_set (p : Pl) (k t u : Nat) : (p.set k t).set k u = p.set k u := by
  unfold Pl.set
  match k with
  | 0 => rfl
  | 1 => rfl
  | n + 2 => rfl
theorem flat_succ {α : Type} (f : Nat → List α) (k : Nat) : (List.range (k + 1)).flatMap f = (List.range k).flatMap f ++ f k := by
  rw [List.range_succ, List.flatMap_append]; simp
theorem flat_split {α : Type} (f : Nat → List α) {k n : Nat} (h : k < n) : ∃ post, (List.range n).flatMap f = (List.range k).flatMap f ++ f k ++ post := by
  refine ⟨((List.range (n - (k + 1))).map (k + 1 + ·)).flatMap f, ?_⟩
  rw [← flat_succ, ← List.flatMap_append, ← List.range_add, show k + 1 + (n - (k + 1)) = n by omega]
theorem shl1_dec : ∀ n : Nat, n ≤ 6 → (2 : Int) ^ n % 256 = ((2 ^ n : Nat) : Int) := by decide +kernel

/-- The world while fill runs. -/
structure FiW (n0 B : Nat) (w0 W : World) (s0 : Nat) (ab ast ae ak : Option Addr) (cb cs ce nk ck : Nat) (V : Vz) (p : Pl) (wr : World) : Prop where
  x0 : Bx wr s0 #[.slice ab V.nb cb, .slice ast V.st.length cs, .slice ae V.er.length ce, .slice ak nk ck, .int .i64 V.ch, .int .u8 (V.now.a : Int), .int .u8 (V.now.b : Int), .int .u8 (V.now.c : Int), .int .u8 (V.stay.a : Int), .int .u8 (V.stay.b : Int), .int .u8 (V.stay.c : Int)] 72
  x1 : Bx wr (s0 + 1) #[.int .u8 (p.a : Int), .int .u8 (p.b : Int), .int .u8 (p.c : Int)] 70
  kp : Kept n0 B W wr
  bw : Below n0 w0 wr
theorem FiW.kept {n0 B s0 : Nat} {w0 W : World} {ab ast ae ak : Option Addr} {cb cs ce nk ck : Nat} {V : Vz} {p : Pl} {a b : World} (h : FiW n0 B w0 W s0 ab ast ae ak cb cs ce nk ck V p a) (hk : Kept n0 B a b) (hs : B ≤ s0) : FiW n0 B w0 W s0 ab ast ae ak cb cs ce nk ck V p b :=
  ⟨hk.bx h.x0 hs, hk.bx h.x1 (by omega), h.kp.trans hk, h.bw.trans hk.below⟩

set_option maxRecDepth 100000 in
set_option maxHeartbeats 6000000 in
theorem fill_rec (ab ast ae ak : Option Addr) (cb cs ce nk ck : Nat) (V : Vz) (hV : VOk V) (l n0 B : Nat) (w0 : World) (hR : Vis w0 ast ae V) (hn0 : w0.heap.size ≤ n0) (hB : n0 ≤ B) (XS : List Pl) (J : List Pl → World → Prop) (hJ : ∀ pre W1 W2, J pre W1 → Below B W1 W2 → J pre W2)
    (hY : ∀ pre x, (∃ rest, XS = pre ++ x :: rest) → ∀ W1, J pre W1 → YieldAt Fence.wide 0 Try.prog l (encP x) W1 fun e W' => e = .returned (.bool true) ∧ J (pre ++ [x]) W' ∧ Kept n0 B W1 W') : ∀ (r box : Nat) (p : Pl) (pre post : List Pl) (W : World), box + r = V.nb → p.ok (2 ^ V.st.length) → XS = pre ++ plansF V r p box ++ post → J pre W → Below n0 w0 W → B ≤ W.heap.size →
    Calls Try.prog 94 #[.agg #[.slice ab V.nb cb, .slice ast V.st.length cs, .slice ae V.er.length ce, .slice ak nk ck, .int .i64 V.ch, .int .u8 (V.now.a : Int), .int .u8 (V.now.b : Int), .int .u8 (V.now.c : Int), .int .u8 (V.stay.a : Int), .int .u8 (V.stay.b : Int), .int .u8 (V.stay.c : Int)], .agg #[.int .u8 (p.a : Int), .int .u8 (p.b : Int), .int .u8 (p.c : Int)], .int .i64 (box : Int), .func (.yield l) #[] #[]] W fun e W' => e = .returned (.bool true) ∧ J (pre ++ plansF V r p box) W' ∧ Kept n0 B W W' := by
  intro r
  induction r with
  | zero =>
    intro box p pre post W hbx hp hX hj hw hBW
    obtain rfl : box = V.nb := by omega
    exact fill_zero ab ast ae ak cb cs ce nk ck V hV l n0 B w0 hR hn0 hB XS J hJ hY p hp pre post W hX hj hw hBW
  | succ r ih =>
    intro box p pre post W hbx hp hX hj hw hBW
    obtain ⟨f, hf⟩ : ∃ f : Nat → List Pl, f = fun t => if cnt t == cnt (V.now.get box) && fitB V (p.set box t) box then plansF V r (p.set box t) (box + 1) else [] := ⟨_, rfl⟩
    have hpf : plansF V (r + 1) p box = (List.range (2 ^ V.st.length)).flatMap f := by rw [hf]; rfl
    rw [hpf] at hX ⊢
    have hb3 : box < 3 := by have := hV.nb3; omega
    have hsh := shl1_dec V.st.length hV.t6
    have hp64 := hV.p64
    have h6 := hV.t6
    have hcx := fun v (g : Nat) (hg : g < 64) => count_any g hg v
    have hcn := fun v => count_any (V.now.get box) (hV.now64.get box) v
    have hfx := fun (q : Pl) (hq : q.ok 64) v => fitsBox_any ab ast ae ak cb cs ce nk ck V hV q hq box hb3 v
    obtain ⟨N, hN⟩ : ∃ N, N = 2 ^ V.st.length := ⟨_, rfl⟩
    rw [← hN] at hX hp64 hp hsh ih ⊢
    have HF := hid hf; have HX := hid hX
    have hbI : (box : Int) < (V.nb : Int) := by omega
    have hbe : ((box : Int) == (V.nb : Int)) = false := by simp; omega
    have hbI3 : (box : Int) < 3 := by omega
    have hb0 : (0 : Int) ≤ (box : Int) := by omega
    have HBX := hid hbx
    clear hf hX hpf hbx hN
    obtain ⟨W1, hW1, hb1, hs1, x0, x1⟩ := boxes2 W #[.slice ab V.nb cb, .slice ast V.st.length cs, .slice ae V.er.length ce, .slice ak nk ck, .int .i64 V.ch, .int .u8 (V.now.a : Int), .int .u8 (V.now.b : Int), .int .u8 (V.now.c : Int), .int .u8 (V.stay.a : Int), .int .u8 (V.stay.b : Int), .int .u8 (V.stay.c : Int)] 72 #[.int .u8 (p.a : Int), .int .u8 (p.b : Int), .int .u8 (p.c : Int)] 70
    have c0 := x0.cell 0 rfl; have c1 := x0.cell 1 rfl; have c2 := x0.cell 2 rfl; have c3 := x0.cell 3 rfl; have c4 := x0.cell 4 rfl; have c5 := x0.cell 5 rfl; have c6 := x0.cell 6 rfl; have c7 := x0.cell 7 rfl; have c8 := x0.cell 8 rfl; have c9 := x0.cell 9 rfl; have c10 := x0.cell 10 rfl; have d0 := x1.cell 0 rfl; have d1 := x1.cell 1 rfl; have d2 := x1.cell 2 rfl
    have E0 : FiW n0 B w0 W W.heap.size ab ast ae ak cb cs ce nk ck V p W1 := ⟨x0, x1, Kept.of_below hb1 (by omega), hw.trans (hb1.mono (by omega))⟩
    have hj1 := hJ _ _ _ hj (hb1.mono hBW)
    go_enter Try.func94, Try.ntmps94
    go_wp2
    rw [hsh]
    clear hW1 c0 c1 c2 c3 c4 c5 c6 c7 c8 c9 c10 d0 d1 d2 x0 x1 hsh
    obtain ⟨s0, hs0⟩ : ∃ s0, s0 = W.heap.size := ⟨_, rfl⟩
    rw [← hs0] at E0 hBW ⊢
    have HS0 := hid hs0
    clear hs0 hj hw
    go_loopw [9, 30] (fun v9 v30 wr => ∃ (k : Nat) (q : Pl), k ≤ N ∧ v30 = .int .u8 (k : Int) ∧ FiW n0 B w0 W s0 ab ast ae ak cb cs ce nk ck V q wr ∧ (∀ t, q.set box t = p.set box t) ∧ q.ok N ∧ J (pre ++ (List.range k).flatMap f) wr) (fun _ v30 _ => N - (intOf v30).toNat)
    case atStart => exact ⟨0, p, Nat.zero_le _, rfl, E0, fun _ => rfl, hp, by simpa using hj1⟩
    case round =>
      clear E0 hj1 hb1 hs1
      obtain ⟨k, q, hk, rfl, E, hq, hqok, hjk⟩ := hrel
      by_cases hlt : k < N
      · have hkI : (k : Int) < N := by omega
        have hk0 : (0 : Int) ≤ (k : Int) := by omega
        have hk64 : k < 64 := by omega
        have hN64 : (N : Int) ≤ 64 := by omega
        have hk64I : (k : Int) < 64 := by omega
        have e8 : IntKind.u8.wrap ((k : Int) + 1) = (k : Int) + 1 := IntWalk.u8_in _ (by omega)
        have hps := pl_set q hb3 k
        obtain ⟨Q, hQ⟩ : ∃ Q, Q = q.set box k := ⟨_, rfl⟩
        have hQp : Q = p.set box k := by rw [hQ, hq]
        have hQok : Q.ok N := by rw [hQ]; exact hqok.set box hlt
        have HQ := hid (show ∀ t, Q.set box t = p.set box t from fun t => by rw [hQp, set_set])
        rw [← hQ] at hps
        have hfk : f k = if cnt k == cnt (V.now.get box) && fitB V Q box then plansF V r Q (box + 1) else [] := by rw [HF.out, hQp]
        obtain ⟨post2, hp2⟩ := flat_split f hlt
        have hX2 : XS = (pre ++ (List.range k).flatMap f) ++ f k ++ (post2 ++ post) := by rw [HX.out, hp2]; simp
        have hfs := flat_succ f k
        have y1 := E.x1.set box (.int .u8 (k : Int))
        rw [hps] at y1
        have E2 : FiW n0 B w0 W s0 ab ast ae ak cb cs ce nk ck V Q (wr.setCell ⟨s0 + 1, box, none⟩ (.int .u8 (k : Int))) := ⟨E.x0.other (by show s0 ≠ s0 + 1; omega) _, y1, E.kp.setNew (by show n0 ≤ s0 + 1; omega) (by show W.heap.size ≤ s0 + 1; have := HS0.out; omega) _, E.bw.setCell (by show n0 ≤ s0 + 1; omega) _⟩
        have hj2 := hJ _ _ _ hjk ((Below.refl B wr).setCell (p := ⟨s0 + 1, box, none⟩) (by show B ≤ s0 + 1; omega) (.int .u8 (k : Int)))
        have hBr : B ≤ (wr.setCell ⟨s0 + 1, box, none⟩ (.int .u8 (k : Int))).heap.size := by have := E.kp.below.size; have := HS0.out; simp [World.setCell]; omega
        have z0 := E.x1.free box
        have zc := E.x1.cell box (pl_at q hb3)
        go_upto_region 7 with fail
        obtain ⟨W2, hW2⟩ : ∃ W2, W2 = wr.setCell ⟨s0 + 1, box, none⟩ (.int .u8 (k : Int)) := ⟨_, rfl⟩
        rw [← hW2] at E2 hj2 hBr ⊢
        clear hW2 z0 zc y1 E hjk hp2 hps hQ hq hQp
        have E3 := E2.kept (Kept.of_below (Below.refl W2.heap.size W2).drew (by omega)) (by omega)
        have hj3 := hJ _ _ _ hj2 (Below.refl B W2).drew
        have hB3 : B ≤ W2.drew.heap.size := hBr
        obtain ⟨Y0, hY0⟩ : ∃ Y, Y = W2.drew := ⟨_, rfl⟩
        rw [← hY0] at E3 hj3 hB3
        clear E2 hj2 hBr
        have S0 := And.intro E3.x0 E3.x1
        have hgc := vv_now ab ast ae ak cb cs ce nk ck V hb3
        have hgn : V.now.get box < 64 := hV.now64.get box
        obtain ⟨gN, hgN⟩ : ∃ g, g = V.now.get box := ⟨_, rfl⟩
        rw [← hgN] at hgc hfk hcn hgn
        have hck := fun v => hcx v k hk64
        have hc1 := cnt_le k
        have hc2 := cnt_le gN
        have hfx1 := fun v => hfx Q (hQok.le hp64) v
        clear hgN hfx hcx
        cases hcc : (cnt k == cnt gN)
        · have hf0 : f k = [] := by rw [hfk, hcc]; rfl
          rw [hf0, List.append_nil] at hfs
          have HFS := hid hfs
          have hcI : (((cnt k : Nat) : Int) == ((cnt gN : Nat) : Int)) = false := by simp at hcc ⊢; omega
          clear hf0 hfs hfk hcc hX2 ih
          refine wp_region_head 22 (fun w' => Bx w' s0 #[.slice ab V.nb cb, .slice ast V.st.length cs, .slice ae V.er.length ce, .slice ak nk ck, .int .i64 V.ch, .int .u8 (V.now.a : Int), .int .u8 (V.now.b : Int), .int .u8 (V.now.c : Int), .int .u8 (V.stay.a : Int), .int .u8 (V.stay.b : Int), .int .u8 (V.stay.c : Int)] 72 ∧ Bx w' (s0 + 1) #[.int .u8 (Q.a : Int), .int .u8 (Q.b : Int), .int .u8 (Q.c : Int)] 70) (by kernel_rfl) rfl ?_
          rw [← hY0]
          clear hY0
          refine HeadAt.take (i := 0) (.int .u8 (k : Int)) rfl (by kernel_rfl) (.inl ⟨rfl, fun _ _ => by simp [go_sem]⟩) S0 ?_
          refine HeadAt.take (i := 2) (.int .i64 (box : Int)) rfl (by kernel_rfl) (.inl ⟨rfl, fun _ _ => by simp [go_sem]⟩) S0 ?_
          (try simp only [Act.put, List.getElem_toArray, List.getElem_cons_succ, List.getElem_cons_zero, List.setIfInBounds_toArray, List.set_cons_succ, List.set_cons_zero])
          refine HeadAt.take (i := 3) (.pointer (some ⟨s0, 5, none⟩)) rfl (by kernel_rfl) (.inl ⟨rfl, fun _ _ => by simp [go_sem]⟩) S0 ?_
          (try simp only [Act.put, List.getElem_toArray, List.getElem_cons_succ, List.getElem_cons_zero, List.setIfInBounds_toArray, List.set_cons_succ, List.set_cons_zero])
          refine HeadAt.take (i := 4) (.pointer (some ⟨s0, 5 + box, none⟩)) rfl (by kernel_rfl) (.inl ⟨rfl, fun w' z => ?_⟩) S0 ?_
          · (simp [go_sem, hbI3, hb0])
          (try simp only [Act.put, List.getElem_toArray, List.getElem_cons_succ, List.getElem_cons_zero, List.setIfInBounds_toArray, List.set_cons_succ, List.set_cons_zero])
          refine HeadAt.take (i := 5) (.int .u8 (gN : Int)) rfl (by kernel_rfl) (.inl ⟨rfl, fun w' z => ?_⟩) S0 ?_
          · (have z0 := z.1.cell (5 + box) hgc; simp [go_sem, z0])
          (try simp only [Act.put, List.getElem_toArray, List.getElem_cons_succ, List.getElem_cons_zero, List.setIfInBounds_toArray, List.set_cons_succ, List.set_cons_zero])
          refine HeadAt.one (i := 1) rfl (by kernel_rfl) ?_
          generalize hK : Upto _ _ = K0
          (try simp only [Act.put, List.getElem_toArray, List.getElem_cons_succ, List.getElem_cons_zero, List.setIfInBounds_toArray, List.set_cons_succ, List.set_cons_zero])
          go_wp2_with fail
          refine (hck _).mono ?_
          rintro e V1 ⟨rfl, rfl⟩
          go_wp2_with fail
          subst hK
          refine ⟨S0, ?_⟩
          (try simp only [Act.put, List.getElem_toArray, List.getElem_cons_succ, List.getElem_cons_zero, List.setIfInBounds_toArray, List.set_cons_succ, List.set_cons_zero])
          refine HeadAt.one (i := 6) rfl (by kernel_rfl) ?_
          generalize hK : Upto _ _ = K0
          (try simp only [Act.put, List.getElem_toArray, List.getElem_cons_succ, List.getElem_cons_zero, List.setIfInBounds_toArray, List.set_cons_succ, List.set_cons_zero])
          go_wp2_with fail
          refine (hcn _).mono ?_
          rintro e V1 ⟨rfl, rfl⟩
          go_wp2_with fail
          subst hK
          refine ⟨S0, ?_⟩
          (try simp only [Act.put, List.getElem_toArray, List.getElem_cons_succ, List.getElem_cons_zero, List.setIfInBounds_toArray, List.set_cons_succ, List.set_cons_zero])
          refine HeadAt.take (i := 7) (.bool false) rfl (by kernel_rfl) (.inl ⟨rfl, fun w' z => ?_⟩) S0 ?_
          · (simp [go_sem, hcI])
          (try simp only [Act.put, List.getElem_toArray, List.getElem_cons_succ, List.getElem_cons_zero, List.setIfInBounds_toArray, List.set_cons_succ, List.set_cons_zero])
          refine HeadAt.take (i := 8) (.bool false) rfl (by kernel_rfl) (.inl ⟨rfl, fun _ _ => by simp [go_sem]⟩) S0 ?_
          (try simp only [Act.put, List.getElem_toArray, List.getElem_cons_succ, List.getElem_cons_zero, List.setIfInBounds_toArray, List.set_cons_succ, List.set_cons_zero])
          refine HeadAt.take (i := 9) undef rfl (by kernel_rfl) (.inr ⟨by kernel_rfl, rfl⟩) S0 ?_
          (try simp only [Act.put, List.getElem_toArray, List.getElem_cons_succ, List.getElem_cons_zero, List.setIfInBounds_toArray, List.set_cons_succ, List.set_cons_zero])
          refine HeadAt.take (i := 10) undef rfl (by kernel_rfl) (.inr ⟨by kernel_rfl, rfl⟩) S0 ?_
          (try simp only [Act.put, List.getElem_toArray, List.getElem_cons_succ, List.getElem_cons_zero, List.setIfInBounds_toArray, List.set_cons_succ, List.set_cons_zero])
          refine HeadAt.take (i := 11) undef rfl (by kernel_rfl) (.inr ⟨by kernel_rfl, rfl⟩) S0 ?_
          (try simp only [Act.put, List.getElem_toArray, List.getElem_cons_succ, List.getElem_cons_zero, List.setIfInBounds_toArray, List.set_cons_succ, List.set_cons_zero])
          refine HeadAt.take (i := 12) undef rfl (by kernel_rfl) (.inr ⟨by kernel_rfl, rfl⟩) S0 ?_
          (try simp only [Act.put, List.getElem_toArray, List.getElem_cons_succ, List.getElem_cons_zero, List.setIfInBounds_toArray, List.set_cons_succ, List.set_cons_zero])
          
          refine HeadAt.take (i := 13) (.bool false) rfl (by kernel_rfl) (.inl ⟨rfl, fun _ _ => by simp [go_sem]⟩) S0 ?_
          (try simp only [Act.put, List.getElem_toArray, List.getElem_cons_succ, List.getElem_cons_zero, List.setIfInBounds_toArray, List.set_cons_succ, List.set_cons_zero])
          refine HeadAt.take (i := 14) (.bool false) rfl (by kernel_rfl) (.inl ⟨rfl, fun _ _ => by simp [go_sem]⟩) S0 ?_
          (try simp only [Act.put, List.getElem_toArray, List.getElem_cons_succ, List.getElem_cons_zero, List.setIfInBounds_toArray, List.set_cons_succ, List.set_cons_zero])
          refine HeadAt.take (i := 15) undef rfl (by kernel_rfl) (.inr ⟨by kernel_rfl, rfl⟩) S0 ?_
          (try simp only [Act.put, List.getElem_toArray, List.getElem_cons_succ, List.getElem_cons_zero, List.setIfInBounds_toArray, List.set_cons_succ, List.set_cons_zero])
          refine HeadAt.take (i := 16) undef rfl (by kernel_rfl) (.inr ⟨by kernel_rfl, rfl⟩) S0 ?_
          (try simp only [Act.put, List.getElem_toArray, List.getElem_cons_succ, List.getElem_cons_zero, List.setIfInBounds_toArray, List.set_cons_succ, List.set_cons_zero])
          refine HeadAt.take (i := 17) undef rfl (by kernel_rfl) (.inr ⟨by kernel_rfl, rfl⟩) S0 ?_
          (try simp only [Act.put, List.getElem_toArray, List.getElem_cons_succ, List.getElem_cons_zero, List.setIfInBounds_toArray, List.set_cons_succ, List.set_cons_zero])
          refine HeadAt.take (i := 18) undef rfl (by kernel_rfl) (.inr ⟨by kernel_rfl, rfl⟩) S0 ?_
          (try simp only [Act.put, List.getElem_toArray, List.getElem_cons_succ, List.getElem_cons_zero, List.setIfInBounds_toArray, List.set_cons_succ, List.set_cons_zero])
          refine HeadAt.take (i := 19) undef rfl (by kernel_rfl) (.inr ⟨by kernel_rfl, rfl⟩) S0 ?_
          (try simp only [Act.put, List.getElem_toArray, List.getElem_cons_succ, List.getElem_cons_zero, List.setIfInBounds_toArray, List.set_cons_succ, List.set_cons_zero])
          refine HeadAt.take (i := 20) undef rfl (by kernel_rfl) (.inr ⟨by kernel_rfl, rfl⟩) S0 ?_
          (try simp only [Act.put, List.getElem_toArray, List.getElem_cons_succ, List.getElem_cons_zero, List.setIfInBounds_toArray, List.set_cons_succ, List.set_cons_zero])
          refine HeadAt.take (i := 21) undef rfl (by kernel_rfl) (.inr ⟨by kernel_rfl, rfl⟩) S0 ?_
          (try simp only [Act.put, List.getElem_toArray, List.getElem_cons_succ, List.getElem_cons_zero, List.setIfInBounds_toArray, List.set_cons_succ, List.set_cons_zero])
          
          refine HeadAt.done (by kernel_rfl) ?_
          (try simp only [Act.put, List.drop_succ_cons, List.drop_zero, List.getElem_toArray, List.getElem_cons_succ, List.getElem_cons_zero])
          go_wp2_with fail
          refine NoPanic.normal ?_
          go_wp2
          go_roundw
          case rel => exact ⟨k + 1, Q, by omega, by simp, E3, HQ.out, hQok, by rw [HFS.out]; exact hj3⟩
          case measure => simp [intOf]; omega
        · have hcI : (((cnt k : Nat) : Int) == ((cnt gN : Nat) : Int)) = true := by simp at hcc ⊢; omega
          cases hff : fitB V Q box
          · have hf0 : f k = [] := by rw [hfk, hcc, hff]; rfl
            rw [hf0, List.append_nil] at hfs
            have HFS := hid hfs
            rw [hff] at hfx1
            clear hf0 hfs hfk hcc hff hX2 ih
            refine wp_region_head 22 (fun w' => Bx w' s0 #[.slice ab V.nb cb, .slice ast V.st.length cs, .slice ae V.er.length ce, .slice ak nk ck, .int .i64 V.ch, .int .u8 (V.now.a : Int), .int .u8 (V.now.b : Int), .int .u8 (V.now.c : Int), .int .u8 (V.stay.a : Int), .int .u8 (V.stay.b : Int), .int .u8 (V.stay.c : Int)] 72 ∧ Bx w' (s0 + 1) #[.int .u8 (Q.a : Int), .int .u8 (Q.b : Int), .int .u8 (Q.c : Int)] 70) (by kernel_rfl) rfl ?_
            rw [← hY0]
            clear hY0
            refine HeadAt.take (i := 0) (.int .u8 (k : Int)) rfl (by kernel_rfl) (.inl ⟨rfl, fun _ _ => by simp [go_sem]⟩) S0 ?_
            refine HeadAt.take (i := 2) (.int .i64 (box : Int)) rfl (by kernel_rfl) (.inl ⟨rfl, fun _ _ => by simp [go_sem]⟩) S0 ?_
            (try simp only [Act.put, List.getElem_toArray, List.getElem_cons_succ, List.getElem_cons_zero, List.setIfInBounds_toArray, List.set_cons_succ, List.set_cons_zero])
            refine HeadAt.take (i := 3) (.pointer (some ⟨s0, 5, none⟩)) rfl (by kernel_rfl) (.inl ⟨rfl, fun _ _ => by simp [go_sem]⟩) S0 ?_
            (try simp only [Act.put, List.getElem_toArray, List.getElem_cons_succ, List.getElem_cons_zero, List.setIfInBounds_toArray, List.set_cons_succ, List.set_cons_zero])
            refine HeadAt.take (i := 4) (.pointer (some ⟨s0, 5 + box, none⟩)) rfl (by kernel_rfl) (.inl ⟨rfl, fun w' z => ?_⟩) S0 ?_
            · (simp [go_sem, hbI3, hb0])
            (try simp only [Act.put, List.getElem_toArray, List.getElem_cons_succ, List.getElem_cons_zero, List.setIfInBounds_toArray, List.set_cons_succ, List.set_cons_zero])
            refine HeadAt.take (i := 5) (.int .u8 (gN : Int)) rfl (by kernel_rfl) (.inl ⟨rfl, fun w' z => ?_⟩) S0 ?_
            · (have z0 := z.1.cell (5 + box) hgc; simp [go_sem, z0])
            (try simp only [Act.put, List.getElem_toArray, List.getElem_cons_succ, List.getElem_cons_zero, List.setIfInBounds_toArray, List.set_cons_succ, List.set_cons_zero])
            refine HeadAt.one (i := 1) rfl (by kernel_rfl) ?_
            generalize hK : Upto _ _ = K0
            (try simp only [Act.put, List.getElem_toArray, List.getElem_cons_succ, List.getElem_cons_zero, List.setIfInBounds_toArray, List.set_cons_succ, List.set_cons_zero])
            go_wp2_with fail
            refine (hck _).mono ?_
            rintro e V1 ⟨rfl, rfl⟩
            go_wp2_with fail
            subst hK
            refine ⟨S0, ?_⟩
            (try simp only [Act.put, List.getElem_toArray, List.getElem_cons_succ, List.getElem_cons_zero, List.setIfInBounds_toArray, List.set_cons_succ, List.set_cons_zero])
            refine HeadAt.one (i := 6) rfl (by kernel_rfl) ?_
            generalize hK : Upto _ _ = K0
            (try simp only [Act.put, List.getElem_toArray, List.getElem_cons_succ, List.getElem_cons_zero, List.setIfInBounds_toArray, List.set_cons_succ, List.set_cons_zero])
            go_wp2_with fail
            refine (hcn _).mono ?_
            rintro e V1 ⟨rfl, rfl⟩
            go_wp2_with fail
            subst hK
            refine ⟨S0, ?_⟩
            (try simp only [Act.put, List.getElem_toArray, List.getElem_cons_succ, List.getElem_cons_zero, List.setIfInBounds_toArray, List.set_cons_succ, List.set_cons_zero])
            refine HeadAt.take (i := 7) (.bool true) rfl (by kernel_rfl) (.inl ⟨rfl, fun w' z => ?_⟩) S0 ?_
            · (simp [go_sem, hcI])
            (try simp only [Act.put, List.getElem_toArray, List.getElem_cons_succ, List.getElem_cons_zero, List.setIfInBounds_toArray, List.set_cons_succ, List.set_cons_zero])
            refine HeadAt.take (i := 8) (.bool true) rfl (by kernel_rfl) (.inl ⟨rfl, fun _ _ => by simp [go_sem]⟩) S0 ?_
            (try simp only [Act.put, List.getElem_toArray, List.getElem_cons_succ, List.getElem_cons_zero, List.setIfInBounds_toArray, List.set_cons_succ, List.set_cons_zero])
            refine HeadAt.take (i := 9) (.agg #[.slice ab V.nb cb, .slice ast V.st.length cs, .slice ae V.er.length ce, .slice ak nk ck, .int .i64 V.ch, .int .u8 (V.now.a : Int), .int .u8 (V.now.b : Int), .int .u8 (V.now.c : Int), .int .u8 (V.stay.a : Int), .int .u8 (V.stay.b : Int), .int .u8 (V.stay.c : Int)]) rfl (by kernel_rfl) (.inl ⟨rfl, fun w' z => ?_⟩) S0 ?_
            · (have z0 := z.1.cell 0 rfl; have z1 := z.1.cell 1 rfl; have z2 := z.1.cell 2 rfl; have z3 := z.1.cell 3 rfl; have z4 := z.1.cell 4 rfl; have z5 := z.1.cell 5 rfl; have z6 := z.1.cell 6 rfl; have z7 := z.1.cell 7 rfl; have z8 := z.1.cell 8 rfl; have z9 := z.1.cell 9 rfl; have z10 := z.1.cell 10 rfl; simp [go_sem, z0, z1, z2, z3, z4, z5, z6, z7, z8, z9, z10])
            refine HeadAt.take (i := 10) (.agg #[.int .u8 (Q.a : Int), .int .u8 (Q.b : Int), .int .u8 (Q.c : Int)]) rfl (by kernel_rfl) (.inl ⟨rfl, fun w' z => ?_⟩) S0 ?_
            · (have z0 := z.2.cell 0 rfl; have z1 := z.2.cell 1 rfl; have z2 := z.2.cell 2 rfl; simp [go_sem, z0, z1, z2])
            (try simp only [Act.put, List.getElem_toArray, List.getElem_cons_succ, List.getElem_cons_zero, List.setIfInBounds_toArray, List.set_cons_succ, List.set_cons_zero])
            refine HeadAt.take (i := 11) (.int .i64 (box : Int)) rfl (by kernel_rfl) (.inl ⟨rfl, fun _ _ => by simp [go_sem]⟩) S0 ?_
            (try simp only [Act.put, List.getElem_toArray, List.getElem_cons_succ, List.getElem_cons_zero, List.setIfInBounds_toArray, List.set_cons_succ, List.set_cons_zero])
            refine HeadAt.one (i := 12) rfl (by kernel_rfl) ?_
            generalize hK : Upto _ _ = K0
            (try simp only [Act.put, List.getElem_toArray, List.getElem_cons_succ, List.getElem_cons_zero, List.setIfInBounds_toArray, List.set_cons_succ, List.set_cons_zero])
            go_wp2_with fail
            refine (hfx1 _).mono ?_
            rintro e V1 ⟨rfl, hb2⟩
            replace E3 := E3.kept (Kept.of_below hb2 (by omega)) (by omega)
            replace hj3 := hJ _ _ _ hj3 (hb2.mono hB3)
            replace S0 := And.intro E3.x0 E3.x1
            go_wp2_with fail
            subst hK
            refine ⟨S0, ?_⟩
            (try simp only [Act.put, List.getElem_toArray, List.getElem_cons_succ, List.getElem_cons_zero, List.setIfInBounds_toArray, List.set_cons_succ, List.set_cons_zero])
            refine HeadAt.take (i := 13) (.bool false) rfl (by kernel_rfl) (.inl ⟨rfl, fun _ _ => by simp [go_sem]⟩) S0 ?_
            (try simp only [Act.put, List.getElem_toArray, List.getElem_cons_succ, List.getElem_cons_zero, List.setIfInBounds_toArray, List.set_cons_succ, List.set_cons_zero])
            refine HeadAt.take (i := 14) (.bool false) rfl (by kernel_rfl) (.inl ⟨rfl, fun _ _ => by simp [go_sem]⟩) S0 ?_
            (try simp only [Act.put, List.getElem_toArray, List.getElem_cons_succ, List.getElem_cons_zero, List.setIfInBounds_toArray, List.set_cons_succ, List.set_cons_zero])
            refine HeadAt.take (i := 15) undef rfl (by kernel_rfl) (.inr ⟨by kernel_rfl, rfl⟩) S0 ?_
            (try simp only [Act.put, List.getElem_toArray, List.getElem_cons_succ, List.getElem_cons_zero, List.setIfInBounds_toArray, List.set_cons_succ, List.set_cons_zero])
            refine HeadAt.take (i := 16) undef rfl (by kernel_rfl) (.inr ⟨by kernel_rfl, rfl⟩) S0 ?_
            (try simp only [Act.put, List.getElem_toArray, List.getElem_cons_succ, List.getElem_cons_zero, List.setIfInBounds_toArray, List.set_cons_succ, List.set_cons_zero])
            refine HeadAt.take (i := 17) undef rfl (by kernel_rfl) (.inr ⟨by kernel_rfl, rfl⟩) S0 ?_
            (try simp only [Act.put, List.getElem_toArray, List.getElem_cons_succ, List.getElem_cons_zero, List.setIfInBounds_toArray, List.set_cons_succ, List.set_cons_zero])
            refine HeadAt.take (i := 18) undef rfl (by kernel_rfl) (.inr ⟨by kernel_rfl, rfl⟩) S0 ?_
            (try simp only [Act.put, List.getElem_toArray, List.getElem_cons_succ, List.getElem_cons_zero, List.setIfInBounds_toArray, List.set_cons_succ, List.set_cons_zero])
            refine HeadAt.take (i := 19) undef rfl (by kernel_rfl) (.inr ⟨by kernel_rfl, rfl⟩) S0 ?_
            (try simp only [Act.put, List.getElem_toArray, List.getElem_cons_succ, List.getElem_cons_zero, List.setIfInBounds_toArray, List.set_cons_succ, List.set_cons_zero])
            refine HeadAt.take (i := 20) undef rfl (by kernel_rfl) (.inr ⟨by kernel_rfl, rfl⟩) S0 ?_
            (try simp only [Act.put, List.getElem_toArray, List.getElem_cons_succ, List.getElem_cons_zero, List.setIfInBounds_toArray, List.set_cons_succ, List.set_cons_zero])
            refine HeadAt.take (i := 21) undef rfl (by kernel_rfl) (.inr ⟨by kernel_rfl, rfl⟩) S0 ?_
            (try simp only [Act.put, List.getElem_toArray, List.getElem_cons_succ, List.getElem_cons_zero, List.setIfInBounds_toArray, List.set_cons_succ, List.set_cons_zero])
            
            refine HeadAt.done (by kernel_rfl) ?_
            (try simp only [Act.put, List.drop_succ_cons, List.drop_zero, List.getElem_toArray, List.getElem_cons_succ, List.getElem_cons_zero])
            go_wp2_with fail
            refine NoPanic.normal ?_
            go_wp2
            go_roundw
            case rel => exact ⟨k + 1, Q, by omega, by simp, E3, HQ.out, hQok, by rw [HFS.out]; exact hj3⟩
            case measure => simp [intOf]; omega
          · have hf1 : f k = plansF V r Q (box + 1) := by rw [hfk, hcc, hff]; rfl
            rw [hff] at hfx1
            rw [hf1] at hfs hX2
            have HFS := hid hfs
            have hih := fun V1 h1 h2 h3 => ih (box + 1) Q _ _ V1 (by have := HBX.out; omega) hQok hX2 h1 h2 h3
            rw [show (((box + 1 : Nat)) : Int) = (box : Int) + 1 by omega] at hih
            have ewb : IntKind.i64.wrap ((box : Int) + 1) = (box : Int) + 1 := IntWalk.i64_in _ (by omega)
            clear hf1 hfs hfk hcc hff hX2 ih
            refine wp_region_head 22 (fun w' => Bx w' s0 #[.slice ab V.nb cb, .slice ast V.st.length cs, .slice ae V.er.length ce, .slice ak nk ck, .int .i64 V.ch, .int .u8 (V.now.a : Int), .int .u8 (V.now.b : Int), .int .u8 (V.now.c : Int), .int .u8 (V.stay.a : Int), .int .u8 (V.stay.b : Int), .int .u8 (V.stay.c : Int)] 72 ∧ Bx w' (s0 + 1) #[.int .u8 (Q.a : Int), .int .u8 (Q.b : Int), .int .u8 (Q.c : Int)] 70) (by kernel_rfl) rfl ?_
            rw [← hY0]
            clear hY0
            refine HeadAt.take (i := 0) (.int .u8 (k : Int)) rfl (by kernel_rfl) (.inl ⟨rfl, fun _ _ => by simp [go_sem]⟩) S0 ?_
            refine HeadAt.take (i := 2) (.int .i64 (box : Int)) rfl (by kernel_rfl) (.inl ⟨rfl, fun _ _ => by simp [go_sem]⟩) S0 ?_
            (try simp only [Act.put, List.getElem_toArray, List.getElem_cons_succ, List.getElem_cons_zero, List.setIfInBounds_toArray, List.set_cons_succ, List.set_cons_zero])
            refine HeadAt.take (i := 3) (.pointer (some ⟨s0, 5, none⟩)) rfl (by kernel_rfl) (.inl ⟨rfl, fun _ _ => by simp [go_sem]⟩) S0 ?_
            (try simp only [Act.put, List.getElem_toArray, List.getElem_cons_succ, List.getElem_cons_zero, List.setIfInBounds_toArray, List.set_cons_succ, List.set_cons_zero])
            refine HeadAt.take (i := 4) (.pointer (some ⟨s0, 5 + box, none⟩)) rfl (by kernel_rfl) (.inl ⟨rfl, fun w' z => ?_⟩) S0 ?_
            · (simp [go_sem, hbI3, hb0])
            (try simp only [Act.put, List.getElem_toArray, List.getElem_cons_succ, List.getElem_cons_zero, List.setIfInBounds_toArray, List.set_cons_succ, List.set_cons_zero])
            refine HeadAt.take (i := 5) (.int .u8 (gN : Int)) rfl (by kernel_rfl) (.inl ⟨rfl, fun w' z => ?_⟩) S0 ?_
            · (have z0 := z.1.cell (5 + box) hgc; simp [go_sem, z0])
            (try simp only [Act.put, List.getElem_toArray, List.getElem_cons_succ, List.getElem_cons_zero, List.setIfInBounds_toArray, List.set_cons_succ, List.set_cons_zero])
            refine HeadAt.one (i := 1) rfl (by kernel_rfl) ?_
            generalize hK : Upto _ _ = K0
            (try simp only [Act.put, List.getElem_toArray, List.getElem_cons_succ, List.getElem_cons_zero, List.setIfInBounds_toArray, List.set_cons_succ, List.set_cons_zero])
            go_wp2_with fail
            refine (hck _).mono ?_
            rintro e V1 ⟨rfl, rfl⟩
            go_wp2_with fail
            subst hK
            refine ⟨S0, ?_⟩
            (try simp only [Act.put, List.getElem_toArray, List.getElem_cons_succ, List.getElem_cons_zero, List.setIfInBounds_toArray, List.set_cons_succ, List.set_cons_zero])
            refine HeadAt.one (i := 6) rfl (by kernel_rfl) ?_
            generalize hK : Upto _ _ = K0
            (try simp only [Act.put, List.getElem_toArray, List.getElem_cons_succ, List.getElem_cons_zero, List.setIfInBounds_toArray, List.set_cons_succ, List.set_cons_zero])
            go_wp2_with fail
            refine (hcn _).mono ?_
            rintro e V1 ⟨rfl, rfl⟩
            go_wp2_with fail
            subst hK
            refine ⟨S0, ?_⟩
            (try simp only [Act.put, List.getElem_toArray, List.getElem_cons_succ, List.getElem_cons_zero, List.setIfInBounds_toArray, List.set_cons_succ, List.set_cons_zero])
            refine HeadAt.take (i := 7) (.bool true) rfl (by kernel_rfl) (.inl ⟨rfl, fun w' z => ?_⟩) S0 ?_
            · (simp [go_sem, hcI])
            (try simp only [Act.put, List.getElem_toArray, List.getElem_cons_succ, List.getElem_cons_zero, List.setIfInBounds_toArray, List.set_cons_succ, List.set_cons_zero])
            refine HeadAt.take (i := 8) (.bool true) rfl (by kernel_rfl) (.inl ⟨rfl, fun _ _ => by simp [go_sem]⟩) S0 ?_
            (try simp only [Act.put, List.getElem_toArray, List.getElem_cons_succ, List.getElem_cons_zero, List.setIfInBounds_toArray, List.set_cons_succ, List.set_cons_zero])
            refine HeadAt.take (i := 9) (.agg #[.slice ab V.nb cb, .slice ast V.st.length cs, .slice ae V.er.length ce, .slice ak nk ck, .int .i64 V.ch, .int .u8 (V.now.a : Int), .int .u8 (V.now.b : Int), .int .u8 (V.now.c : Int), .int .u8 (V.stay.a : Int), .int .u8 (V.stay.b : Int), .int .u8 (V.stay.c : Int)]) rfl (by kernel_rfl) (.inl ⟨rfl, fun w' z => ?_⟩) S0 ?_
            · (have z0 := z.1.cell 0 rfl; have z1 := z.1.cell 1 rfl; have z2 := z.1.cell 2 rfl; have z3 := z.1.cell 3 rfl; have z4 := z.1.cell 4 rfl; have z5 := z.1.cell 5 rfl; have z6 := z.1.cell 6 rfl; have z7 := z.1.cell 7 rfl; have z8 := z.1.cell 8 rfl; have z9 := z.1.cell 9 rfl; have z10 := z.1.cell 10 rfl; simp [go_sem, z0, z1, z2, z3, z4, z5, z6, z7, z8, z9, z10])
            refine HeadAt.take (i := 10) (.agg #[.int .u8 (Q.a : Int), .int .u8 (Q.b : Int), .int .u8 (Q.c : Int)]) rfl (by kernel_rfl) (.inl ⟨rfl, fun w' z => ?_⟩) S0 ?_
            · (have z0 := z.2.cell 0 rfl; have z1 := z.2.cell 1 rfl; have z2 := z.2.cell 2 rfl; simp [go_sem, z0, z1, z2])
            (try simp only [Act.put, List.getElem_toArray, List.getElem_cons_succ, List.getElem_cons_zero, List.setIfInBounds_toArray, List.set_cons_succ, List.set_cons_zero])
            refine HeadAt.take (i := 11) (.int .i64 (box : Int)) rfl (by kernel_rfl) (.inl ⟨rfl, fun _ _ => by simp [go_sem]⟩) S0 ?_
            (try simp only [Act.put, List.getElem_toArray, List.getElem_cons_succ, List.getElem_cons_zero, List.setIfInBounds_toArray, List.set_cons_succ, List.set_cons_zero])
            refine HeadAt.one (i := 12) rfl (by kernel_rfl) ?_
            generalize hK : Upto _ _ = K0
            (try simp only [Act.put, List.getElem_toArray, List.getElem_cons_succ, List.getElem_cons_zero, List.setIfInBounds_toArray, List.set_cons_succ, List.set_cons_zero])
            go_wp2_with fail
            refine (hfx1 _).mono ?_
            rintro e V1 ⟨rfl, hb2⟩
            replace E3 := E3.kept (Kept.of_below hb2 (by omega)) (by omega)
            replace hj3 := hJ _ _ _ hj3 (hb2.mono hB3)
            replace hB3 := Nat.le_trans hB3 hb2.size
            replace S0 := And.intro E3.x0 E3.x1
            go_wp2_with fail
            subst hK
            refine ⟨S0, ?_⟩
            (try simp only [Act.put, List.getElem_toArray, List.getElem_cons_succ, List.getElem_cons_zero, List.setIfInBounds_toArray, List.set_cons_succ, List.set_cons_zero])
            refine HeadAt.take (i := 13) (.bool true) rfl (by kernel_rfl) (.inl ⟨rfl, fun _ _ => by simp [go_sem]⟩) S0 ?_
            (try simp only [Act.put, List.getElem_toArray, List.getElem_cons_succ, List.getElem_cons_zero, List.setIfInBounds_toArray, List.set_cons_succ, List.set_cons_zero])
            refine HeadAt.take (i := 14) (.bool true) rfl (by kernel_rfl) (.inl ⟨rfl, fun _ _ => by simp [go_sem]⟩) S0 ?_
            (try simp only [Act.put, List.getElem_toArray, List.getElem_cons_succ, List.getElem_cons_zero, List.setIfInBounds_toArray, List.set_cons_succ, List.set_cons_zero])
            refine HeadAt.take (i := 15) (.agg #[.slice ab V.nb cb, .slice ast V.st.length cs, .slice ae V.er.length ce, .slice ak nk ck, .int .i64 V.ch, .int .u8 (V.now.a : Int), .int .u8 (V.now.b : Int), .int .u8 (V.now.c : Int), .int .u8 (V.stay.a : Int), .int .u8 (V.stay.b : Int), .int .u8 (V.stay.c : Int)]) rfl (by kernel_rfl) (.inl ⟨rfl, fun w' z => ?_⟩) S0 ?_
            · (have z0 := z.1.cell 0 rfl; have z1 := z.1.cell 1 rfl; have z2 := z.1.cell 2 rfl; have z3 := z.1.cell 3 rfl; have z4 := z.1.cell 4 rfl; have z5 := z.1.cell 5 rfl; have z6 := z.1.cell 6 rfl; have z7 := z.1.cell 7 rfl; have z8 := z.1.cell 8 rfl; have z9 := z.1.cell 9 rfl; have z10 := z.1.cell 10 rfl; simp [go_sem, z0, z1, z2, z3, z4, z5, z6, z7, z8, z9, z10])
            refine HeadAt.take (i := 16) (.agg #[.int .u8 (Q.a : Int), .int .u8 (Q.b : Int), .int .u8 (Q.c : Int)]) rfl (by kernel_rfl) (.inl ⟨rfl, fun w' z => ?_⟩) S0 ?_
            · (have z0 := z.2.cell 0 rfl; have z1 := z.2.cell 1 rfl; have z2 := z.2.cell 2 rfl; simp [go_sem, z0, z1, z2])
            (try simp only [Act.put, List.getElem_toArray, List.getElem_cons_succ, List.getElem_cons_zero, List.setIfInBounds_toArray, List.set_cons_succ, List.set_cons_zero])
            refine HeadAt.take (i := 17) (.int .i64 (box : Int)) rfl (by kernel_rfl) (.inl ⟨rfl, fun _ _ => by simp [go_sem]⟩) S0 ?_
            (try simp only [Act.put, List.getElem_toArray, List.getElem_cons_succ, List.getElem_cons_zero, List.setIfInBounds_toArray, List.set_cons_succ, List.set_cons_zero])
            refine HeadAt.take (i := 18) (.int .i64 ((box : Int) + 1)) rfl (by kernel_rfl) (.inl ⟨rfl, fun w' z => ?_⟩) S0 ?_
            · (simp [go_sem, ewb])
            (try simp only [Act.put, List.getElem_toArray, List.getElem_cons_succ, List.getElem_cons_zero, List.setIfInBounds_toArray, List.set_cons_succ, List.set_cons_zero])
            refine HeadAt.take (i := 19) (.func (.yield l) #[] #[]) rfl (by kernel_rfl) (.inl ⟨rfl, fun _ _ => by simp [go_sem]⟩) S0 ?_
            (try simp only [Act.put, List.getElem_toArray, List.getElem_cons_succ, List.getElem_cons_zero, List.setIfInBounds_toArray, List.set_cons_succ, List.set_cons_zero])
            refine HeadAt.one (i := 20) rfl (by kernel_rfl) ?_
            generalize hK : Upto _ _ = K0
            (try simp only [Act.put, List.getElem_toArray, List.getElem_cons_succ, List.getElem_cons_zero, List.setIfInBounds_toArray, List.set_cons_succ, List.set_cons_zero])
            go_wp2_with fail
            refine (hih _ hj3 E3.bw hB3).mono ?_
            rintro e V2 ⟨rfl, hj4, hk4⟩
            replace E3 := E3.kept hk4 (by omega)
            replace S0 := And.intro E3.x0 E3.x1
            go_wp2_with fail
            subst hK
            refine ⟨S0, ?_⟩
            (try simp only [Act.put, List.getElem_toArray, List.getElem_cons_succ, List.getElem_cons_zero, List.setIfInBounds_toArray, List.set_cons_succ, List.set_cons_zero])
            refine HeadAt.take (i := 21) (.bool false) rfl (by kernel_rfl) (.inl ⟨rfl, fun _ _ => by simp [go_sem]⟩) S0 ?_
            (try simp only [Act.put, List.getElem_toArray, List.getElem_cons_succ, List.getElem_cons_zero, List.setIfInBounds_toArray, List.set_cons_succ, List.set_cons_zero])
            refine HeadAt.done (by kernel_rfl) ?_
            (try simp only [Act.put, List.drop_succ_cons, List.drop_zero, List.getElem_toArray, List.getElem_cons_succ, List.getElem_cons_zero])
            go_wp2_with fail
            refine NoPanic.normal ?_
            go_wp2
            go_roundw
            case rel => exact ⟨k + 1, Q, by omega, by simp, E3, HQ.out, hQok, by rw [HFS.out, ← List.append_assoc]; exact hj4⟩
            case measure => simp [intOf]; omega
      · obtain rfl : k = N := by omega
        go_wp2
        go_ret
        exact ⟨rfl, hjk, E.kp⟩
end Go.Proofs.Ytipdohpbilabiaa
