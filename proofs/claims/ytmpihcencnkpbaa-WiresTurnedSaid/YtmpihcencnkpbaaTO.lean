import Derived.Test.YtmpihcencnkpbaaTL
import Derived.SizedLaws
/-! WiresMore: a box with one fault more may be had. -/
namespace Go.Proofs.Ytmpihcencnkpbaa
set_option linter.unusedSimpArgs false
set_option linter.unusedVariables false
open Go Go.RowKit Go.ChangeShapes Go.WideShapes Go.ChangeAt Go.Joins

theorem cls_at3 {w : World} {A : Option Addr} {xs : List F3} (h : ∀ i, i < xs.length → ∃ b off, A = some ⟨b, off, none⟩ ∧ b < w.heap.size ∧ At3 w b (off + i * 3) (xs.getD i f30)) : Cls w A (fcells xs) := fun j u hj => by
  have hlt : j < (fcells xs).length := by
    rcases Nat.lt_or_ge j (fcells xs).length with hl | hl
    · exact hl
    · rw [List.getElem?_eq_none hl] at hj; cases hj
  rw [fcells_len] at hlt
  obtain ⟨i, hi, e⟩ : ∃ i, i < xs.length ∧ (j = i * 3 ∨ j = i * 3 + 1 ∨ j = i * 3 + 2) := ⟨j / 3, by omega, by omega⟩
  obtain ⟨b, off, ha, hb, h1, h2, h3⟩ := h i hi
  obtain ⟨p1, p2, p3⟩ := fcells_at xs i hi
  rcases e with rfl | rfl | rfl
  · exact ⟨b, off, ha, hb, by rw [h1, ← p1, hj]⟩
  · exact ⟨b, off, ha, hb, by rw [← Nat.add_assoc, h2, ← p2, hj]⟩
  · exact ⟨b, off, ha, hb, by rw [← Nat.add_assoc, h3, ← p3, hj]⟩

set_option maxRecDepth 100000 in
set_option maxHeartbeats 3000000 in
theorem Copy_long (L N : Int) (aP : Option Addr) (cP : Nat) (P : List F3) (F : Int) (w : World) (hX : Cls w aP (fcells P)) (hl : P.length ≤ 5864062014805) : Calls Try.prog 15 #[.agg #[.int .i64 L, .int .i64 N, .slice aP P.length cP, .int .i64 F]] w (CpP L N P F w) := by
  obtain ⟨i0, hi0, iz0, iz1, iz2⟩ := info_parts info58
  unfold CpP
  obtain ⟨n, hn⟩ : ∃ n, n = P.length := ⟨_, rfl⟩
  rw [← hn] at hl ⊢
  have HN := hid hn
  clear hn
  go_enter Try.func15, Try.ntmps15
  go_upto_region 2 with fail
  obtain ⟨W, hW, hb, hs, x0, x1, x3⟩ := boxes3 w #[.int .i64 L, .int .i64 N, .slice aP n cP, .int .i64 F] 24 #[.int .i64 0, .int .i64 0, .slice none 0 0, .int .i64 0] 24 #[.int .i64 L, .int .i64 N, .slice aP n cP, .int .i64 F] 24
  rw [hW]
  clear hW
  have hA := own_litB W 58 3 (B := w.heap.size + 3) (by omega)
  have hb1 := below_one (w := W) (.cells #[] 58)
  have HXa := hid (And.intro (x0.below hb1) (And.intro (x1.below hb1) (And.intro (x3.below hb1) (And.intro (hb.trans (hb1.mono hb.size)) (And.intro hA (show w.heap.size + 3 ≤ W.heap.size by omega))))))
  have hcl := ((hX.below hb (Nat.le_refl _)).below hb1 (Nat.le_refl _))
  have c2 := (x0.below hb1).cell 2 rfl
  have HLN := hid (show (fcells P).length = n * 3 by rw [fcells_len, HN.out])
  clear x0 x1 x3 hb hA hb1 hs hX
  go_upto_region 3 with (at_builtin
                         obtain ⟨x0, x1, x3, hb, hA, hsz⟩ := HXa.out
                         refine wpList_appLit rfl (.tmp 5) (.tmp 7) 22 rfl (w.heap.size + 3) 58 i0 (.agg #[.int .i64 0, .int .i64 0, .int .i64 0]) 3 24 under22 hi0 iz0 iz1 iz2 rfl (by decide) W.heap.size rfl hA aP n cP (fcells P) rfl HLN.out hcl (fcells_one P) (by unfold maxLen; omega) (by omega) (by simp; omega) ?_
                         intro vO W1 hownO hbO hplO
                         clear hA
                         obtain ⟨b, d, rfl⟩ := own_slice2 hownO
                         replace x1 := x1.below hbO
                         replace x3 := x3.below hbO
                         replace hb := hb.trans (hbO.mono hb.size)
                         have hsz1 : w.heap.size + 3 ≤ W1.heap.size := by have := hbO.size; simp at this; omega
                         have e2 := x3.cell 2 rfl; have f2 := x3.free 2)
  have hge := own_ge2 hownO
  have y1 := x1.other (a := ⟨w.heap.size + 2, 2, none⟩) (by show w.heap.size + 1 ≠ w.heap.size + 2; omega) (.slice b n d)
  have y3 : Bx (W1.setCell ⟨w.heap.size + 2, 2, none⟩ (.slice b n d)) (w.heap.size + 2) #[.int .i64 L, .int .i64 N, .slice b n d, .int .i64 F] 24 := by simpa using x3.set 2 (.slice b n d)
  have yb := hb.setCell (p := ⟨w.heap.size + 2, 2, none⟩) (by show w.heap.size ≤ w.heap.size + 2; omega) (.slice b n d)
  have yo := own_keep hownO (gset W1 ⟨w.heap.size + 2, 2, none⟩ (.slice b n d)) (fun k hk e => by have := hge k hk; have e' : w.heap.size + 2 = k := (by simpa using e); omega)
  have HY := hid (And.intro y1 (And.intro y3 (And.intro yb yo)))
  clear x0 x1 x3 hownO hge y1 y3 yb yo e2 f2 hcl hb hbO HXa hplO hsz hsz1 c2
  obtain ⟨y1, y3, yb, yo⟩ := HY.out
  clear HY
  generalize World.setCell _ _ _ = V0 at *
  have hg := gput4 V0 (w.heap.size + 1) (.int .i64 L) (.int .i64 N) (.slice b n d) (.int .i64 F)
  have z1 := y1.set4 (.int .i64 L) (.int .i64 N) (.slice b n d) (.int .i64 F)
  have zb := below_put4 yb (b := w.heap.size + 1) (by omega) (.int .i64 L) (.int .i64 N) (.slice b n d) (.int .i64 F)
  have hge := own_ge2 yo
  have zo := own_keep yo hg (fun k hk e => by have := hge k hk; have e' : w.heap.size + 1 = k := (by simpa using e); omega)
  have HZ := hid (And.intro z1 (And.intro zb zo))
  have c0 := y3.cell 0 rfl; have c1 := y3.cell 1 rfl; have c2 := y3.cell 2 rfl; have c3 := y3.cell 3 rfl
  have d0 := y1.cell 0 rfl; have d1 := y1.cell 1 rfl; have d2 := y1.cell 2 rfl; have d3 := y1.cell 3 rfl
  have f0 := y1.free 0; have f1 := y1.free 1; have f2 := y1.free 2; have f3 := y1.free 3
  clear hg z1 zb zo hge y1 y3 yb yo
  go_wp2_with fail
  obtain ⟨z1, zb, zo⟩ := HZ.out
  clear HZ c0 c1 c2 c3 d0 d1 d2 d3 f0 f1 f2 f3
  generalize World.setCell _ _ _ = V4 at *
  have e0 := z1.cell 0 rfl; have e1 := z1.cell 1 rfl; have e2 := z1.cell 2 rfl; have e3 := z1.cell 3 rfl
  go_wp2
  refine bodyPost_ret (v := .agg #[.int .i64 L, .int .i64 N, .slice b n d, .int .i64 F]) ?_ rfl ⟨zb, b, d, rfl, own_base zo (by omega)⟩
  simp [results, Try.results15, go_sem, e0, e1, e2, e3]


set_option maxRecDepth 100000 in
/-- A slice that came in, of any length. -/
theorem fz_long22 {H : Type} {enc : TypeId × Value → H} {W : World} {n : Nat} {v : Value} {y : DataW H × List MemPlace} (h : DataW.trod enc Try.prog W 0 (fun _ => true) true n 22 [v] = some y) :
    ∃ (a : Option Addr) (c : Nat) (xs : List F3), v = .slice a xs.length c ∧ xs.length ≤ c ∧ (∀ x ∈ xs, x.i64) ∧ (∀ i, i < xs.length → ∃ b off, a = some ⟨b, off, none⟩ ∧ b < W.heap.size ∧ At3 W b (off + i * 3) (xs.getD i f30)) ∧ (xs = [] ∨ ∃ (es sp : List (DataW H)), y.1 = .slice es sp ∧ es.length = xs.length) := by
  rcases Go.Deep.open_slice Try.underlying22 h with ⟨hcs, _⟩ | ⟨ad, len, cap, m, n', D, Pl, hcs, _, hl, hm, hmm, hy, hi⟩
  · simp at hcs
    exact ⟨none, 0, [], by rw [hcs]; rfl, by simp, fun x hx => by simp at hx, fun i hi => by simp at hi, .inl rfl⟩
  · simp at hcs
    subst hcs
    simp only [if_true] at hmm
    subst hmm
    have each : ∀ i, i < m → ∃ x : F3, x.i64 ∧ W.cell? (ad.add (i * 3)) = some (.int .i64 x.k) ∧ W.cell? ((ad.add (i * 3)).add 1) = some (.int .i64 x.a) ∧ W.cell? ((ad.add (i * 3)).add 2) = some (.int .i64 x.b) := fun i h => by
      obtain ⟨cs', h1, h2⟩ := hi i h
      rw [jcells58] at h1
      obtain ⟨_, hlen, hcell⟩ := World.cells?_some h1
      obtain ⟨xs, k, _, _, _, hxl, hf⟩ := DataW.trod_struct Try.underlying58 h2
      match xs, hxl, cs', hlen with
      | [y0, y1, y2], _, [v0, v1, v2], _ =>
        have g0 := hf 0 _ rfl
        have g1 := hf 1 _ rfl
        have g2 := hf 2 _ rfl
        simp [jcells3] at g0 g1 g2
        obtain ⟨x0, e0, _, w0⟩ := DataW.trod_int Try.underlying3 g0
        obtain ⟨x1, e1, _, w1⟩ := DataW.trod_int Try.underlying3 g1
        obtain ⟨x2, e2, _, w2⟩ := DataW.trod_int Try.underlying3 g2
        simp at e0 e1 e2
        subst e0 e1 e2
        have q0 := hcell 0 (by omega)
        have q1 := hcell 1 (by omega)
        have q2 := hcell 2 (by omega)
        have ea : ∀ a : Addr, a.add 0 = a := fun a => by unfold Addr.add; split <;> simp_all
        rw [ea] at q0
        exact ⟨⟨x0, x1, x2⟩, ⟨int_rng w0, int_rng w1, int_rng w2⟩, by simpa using q0, by simpa using q1, by simpa using q2⟩
    have ech : ∃ f : Nat → F3, ∀ i, i < m → (f i).i64 ∧ W.cell? (ad.add (i * 3)) = some (.int .i64 (f i).k) ∧ W.cell? ((ad.add (i * 3)).add 1) = some (.int .i64 (f i).a) ∧ W.cell? ((ad.add (i * 3)).add 2) = some (.int .i64 (f i).b) :=
      ⟨fun i => if h : i < m then (each i h).choose else f30, fun i h => by simp only [dif_pos h]; exact (each i h).choose_spec⟩
    obtain ⟨f, hf⟩ := ech
    have hlen : ((List.range len).map f).length = len := by simp
    unfold maxLen at hm
    refine ⟨some ad, m, (List.range len).map f, by rw [hlen], by rw [hlen]; omega, fun x hx => ?_, fun i hi' => ?_, .inr ⟨_, _, by rw [hy], by simp⟩⟩
    · obtain ⟨i, hi', rfl⟩ := List.mem_map.1 hx
      exact (hf i (by have := List.mem_range.1 hi'; omega)).1
    · rw [hlen] at hi'
      obtain ⟨_, h0, h1, h2⟩ := hf i (by omega)
      obtain ⟨b, off, spot⟩ := ad
      have hspot : spot = none := by
        have := World.cell?_spot (hf 0 (by omega)).2.1
        simpa [Addr.add] using this
      subst hspot
      rw [add_plain] at h0 h1 h2
      rw [add_plain] at h1 h2
      have hlt := cell_lt h0
      have hg : ((List.range len).map f).getD i f30 = f i := by simp [List.getD, hi']
      exact ⟨b, off, rfl, hlt, by rw [hg]; exact ⟨h0, h1, h2⟩⟩


theorem bytes58 : Try.prog.bytesOf 58 = 24 := by kernel_rfl
set_option maxRecDepth 100000 in
/-- A box that came in, of any length. -/
theorem wire_long {H : Type} {enc : TypeId × Value → H} {W : World} {b0 : Nat} {v : Value} {d : DataW H} {p : List MemPlace} {ts : List TypeId} {ds : List (DataW H)} {j : Nat} (hv : Value.okWide Try.prog W .any b0 24 v)
    (h : DataW.Trod enc Try.prog W 0 (fun _ => true) true 24 v d p) (hz : (DataW.weightsEach Try.prog ts ds).all (· ≤ reachBytes) = true) (ht : ts[j]? = some 24) (hd : ds[j]? = some d) :
    ∃ (L N : Int) (aP : Option Addr) (cP : Nat) (P : List F3) (F : Int), v = .agg #[.int .i64 L, .int .i64 N, .slice aP P.length cP, .int .i64 F] ∧ (∀ x ∈ P, x.i64) ∧ (∀ i, i < P.length → ∃ b off, aP = some ⟨b, off, none⟩ ∧ b < W.heap.size ∧ At3 W b (off + i * 3) (P.getD i f30)) ∧ P.length ≤ 5864062014805 ∧ (-9223372036854775808 ≤ F ∧ F ≤ 9223372036854775807) := by
  obtain ⟨cs, rfl, hsz⟩ := okWide_struct Try.underlying24 hv
  obtain ⟨fuel, hf⟩ := h
  obtain ⟨ys, n, _, hD, _, hlen, hg⟩ := DataW.trod_struct Try.underlying24 hf
  obtain ⟨l⟩ := cs
  have hl2 : l.length = 4 := hsz.trans jcells24
  match l, hl2, ys, hlen with
  | [u0, u1, u2, u3], _, [y0, y1, y2, y3], _ =>
    have t0 := hg 0 _ rfl
    have t1 := hg 1 _ rfl
    have t2 := hg 2 _ rfl
    have t3 := hg 3 _ rfl
    simp [Value.cells, jcells3, jcells22] at t0 t1 t2 t3
    obtain ⟨x0, e0, _, _⟩ := DataW.trod_int Try.underlying3 t0
    obtain ⟨x1, e1, _, _⟩ := DataW.trod_int Try.underlying3 t1
    obtain ⟨ac, cc, xs, rfl, hcap, hi, hc, hs⟩ := fz_long22 t2
    obtain ⟨x3, e3, _, w3⟩ := DataW.trod_int Try.underlying3 t3
    simp at e0 e1 e3
    subst e0 e1 e3
    refine ⟨x0, x1, ac, cc, xs, x3, rfl, hi, hc, ?_, int_rng w3⟩
    rcases hs with rfl | ⟨es, sp, e, hle⟩
    · simp
    · have hr : reachBytes < 2 ^ 47 := reachBytes_lt
      have := List.all_eq_true.1 hz _ (DataW.weights_mem_each ht hd ((es.length + sp.length) * Try.prog.bytesOf 58) (by have hd2 : d = _ := congrArg Prod.fst hD; rw [hd2]; simp only [DataW.weights, Try.underlying24]; refine DataW.weights_mem_each (j := 2) (t := 22) (d := .slice es sp) rfl (by simp [e]) _ (by simp [DataW.weights, Try.underlying22])))
      rw [bytes58] at this
      simp at this
      omega

theorem truL_more {L N F : Int} {P : List F3} (hF : 0 ≤ F) : ∃ R, truL L N P (F + 1) = truL L N P F ++ R := by
  refine ⟨(levL (allF L N) (F.toNat + 1)).filter fun s => exB N s P, ?_⟩
  unfold truL
  rw [setsL_eq, setsL_eq, show (F + 1).toNat + 1 = F.toNat + 1 + 1 by omega, List.range_succ, List.flatMap_append, List.filter_append]
  simp
theorem allF_40 {L N : Int} (hL : 1 ≤ L ∧ L ≤ 4) (hN : 1 ≤ N ∧ N ≤ 4) : (allF L N).length ≤ 40 := by
  have h1 : L = 1 ∨ L = 2 ∨ L = 3 ∨ L = 4 := by omega
  have h2 : N = 1 ∨ N = 2 ∨ N = 3 ∨ N = 4 := by omega
  rcases h1 with rfl | rfl | rfl | rfl <;> rcases h2 with rfl | rfl | rfl | rfl <;> decide +kernel
theorem ctR_len {so : Nat → Nat → Bool} {L N F : Int} {P : List F3} (h : (allF L N).length ≤ 40) : (ctR so L N P F).length ≤ 40 := by
  unfold ctR ctL
  split
  · exact Nat.le_trans (List.length_filter_le _ _) h
  · simp
/-- What is true if there can be one fault more. -/
theorem more_law {L N F : Int} {P : List F3} (h1 : rdB L N P F = true) (h2 : rdB L N P (F + 1) = true) : ((ctR sureS L N P F).length ≤ 40 ∧ (ctR sureS L N P (F + 1)).length ≤ 40 ∧ (ctR maybeS L N P F).length ≤ 40 ∧ (ctR maybeS L N P (F + 1)).length ≤ 40) ∧
    ((akE L N P F true = 3 ∧ (akE L N P (F + 1) true = 0 ∨ akE L N P (F + 1) true = 3)) ∨ (akE L N P F true = 0 ∧ akE L N P (F + 1) true = 0 ∧ (akT L N P F true).length ≤ (akT L N P (F + 1) true).length ∧ subB (ctR sureS L N P (F + 1)) (ctR sureS L N P F) = true ∧ subB (ctR maybeS L N P F) (ctR maybeS L N P (F + 1)) = true)) := by
  obtain ⟨hv, hL4, hN4, _⟩ := rdB_ok h1
  obtain ⟨hv2, _⟩ := rdB_ok h2
  obtain ⟨hL, hN, _, hF, _⟩ := vB_siz hv
  have h40 := allF_40 ⟨hL.1, hL4⟩ ⟨hN.1, hN4⟩
  refine ⟨⟨ctR_len h40, ctR_len h40, ctR_len h40, ctR_len h40⟩, ?_⟩
  rcases akE_two hv with h0 | h3
  · right
    obtain ⟨_, _, hne, hT⟩ := akE_ok h0
    obtain ⟨R, hR⟩ := truL_more (L := L) (N := N) (P := P) hF.1
    have h02 : akE L N P (F + 1) true = 0 := by
      rw [(akT_len hv2).2, if_neg]
      rw [hR, List.length_append]
      have := List.length_pos_iff.2 hne
      omega
    obtain ⟨_, _, _, hT2⟩ := akE_ok h02
    have hcT : ∀ f, (truL L N P F).flatten.count f ≤ (truL L N P F).length := fun f => (flat_cnt _ (fun s hs => setB_cnt ((truL_mem hL hN).1 hs).1.1 f)).1
    have hcR : ∀ f, R.flatten.count f ≤ R.length := fun f => (flat_cnt _ (fun s hs => setB_cnt ((truL_mem (P := P) (F := F + 1) hL hN).1 (by rw [hR]; exact List.mem_append_right _ hs)).1.1 f)).1
    refine ⟨h0, h02, by rw [hT, hT2, hR, List.length_append]; omega, ?_, ?_⟩
    · unfold subB hasF
      rw [List.all_eq_true]
      intro f hf
      rw [decide_eq_true_eq]
      unfold ctR ctL at hf ⊢
      rw [if_pos h02, hR] at hf
      rw [if_pos h0]
      rw [List.mem_filter] at hf ⊢
      refine ⟨hf.1, ?_⟩
      have := hf.2
      unfold sureS at this ⊢
      rw [decide_eq_true_eq, List.flatten_append, List.count_append, List.length_append] at this
      rw [decide_eq_true_eq]
      have := hcT f; have := hcR f
      omega
    · unfold subB hasF
      rw [List.all_eq_true]
      intro f hf
      rw [decide_eq_true_eq]
      unfold ctR ctL at hf ⊢
      rw [if_pos h0] at hf
      rw [if_pos h02, hR]
      rw [List.mem_filter] at hf ⊢
      refine ⟨hf.1, ?_⟩
      have := hf.2
      unfold maybeS at this ⊢
      rw [decide_eq_true_eq] at this ⊢
      rw [List.flatten_append, List.count_append]
      omega
  · exact .inl ⟨h3, akE_two hv2⟩
end Go.Proofs.Ytmpihcencnkpbaa
