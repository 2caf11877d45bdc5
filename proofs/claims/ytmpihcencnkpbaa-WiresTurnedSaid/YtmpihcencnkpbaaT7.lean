import Derived.Test.YtmpihcencnkpbaaT6
/-! All sets, the truths, and how many they are. -/
namespace Go.Proofs.Ytmpihcencnkpbaa
set_option linter.unusedSimpArgs false
set_option linter.unusedVariables false
open Go Go.RowKit

theorem own_litN (w : World) (e : TypeId) (v : Value) : (w.alloc (.cells #[v] e)).ownsRow w.heap.size e 1 (.slice (some ⟨w.heap.size, 0, none⟩) 1 1) 1 [v] := by
  refine ⟨rfl, .inr ⟨w.heap.size, 1, #[v], rfl, Nat.le_refl _, ?_, Nat.le_refl _, by unfold maxLen; omega, rfl, rfl⟩⟩
  exact Bx.new w #[v] e
theorem own_base {w : World} {base base' size : Nat} {e : TypeId} {v : Value} {n : Nat} {xs : List Value} (h : w.ownsRow base e size v n xs) (hb : base' ≤ base) : w.ownsRow base' e size v n xs := by
  refine ⟨h.1, ?_⟩
  rcases h.2 with h' | ⟨g, cap, cur, h1, h2, h3⟩
  · exact .inl h'
  · exact .inr ⟨g, cap, cur, h1, by omega, h3⟩
theorem groL_mem_len {F : List F3} {V : List (List F3)} {i : Nat} (h : ∀ s ∈ V, s.length ≤ i) : ∀ s ∈ groL F V, s.length ≤ i + 1 := fun s hs => by
  simp only [groL, groIn, List.mem_flatMap, List.mem_map, List.mem_filter] at hs
  obtain ⟨s', h1, f, _, rfl⟩ := hs
  have := h s' h1
  rw [List.length_append, List.length_singleton]; omega
/-- How many sets there can be behind so many rounds. -/
structure StB (F : List F3) (m i : Nat) (A V : List (List F3)) : Prop where
  eq : setsI F (m - i) A V = setsI F m [[]] [[]]
  v : V.length ≤ 60 ^ i
  a : A.length ≤ 4 * 60 ^ i
  l : ∀ s ∈ V, s.length ≤ i
theorem StB.zero (F : List F3) (m : Nat) : StB F m 0 [[]] [[]] := ⟨by rw [Nat.sub_zero], by simp, by simp, fun s hs => by simp at hs; simp [hs]⟩
theorem StB.next {F : List F3} {m i : Nat} {A V : List (List F3)} (h : StB F m i A V) (hF : F.length ≤ 60) (hi : i < m) : StB F m (i + 1) (A ++ groL F V) (groL F V) := by
  have hg : (groL F V).length ≤ 60 ^ (i + 1) := by
    have h1 := groL_len F V
    rw [Nat.pow_succ]
    exact Nat.le_trans h1 (Nat.mul_le_mul h.v hF)
  refine ⟨?_, hg, ?_, groL_mem_len h.l⟩
  · rw [← h.eq, show m - i = (m - (i + 1)) + 1 by omega, setsI]
  · have h2 := h.a
    rw [List.length_append]
    rw [Nat.pow_succ] at hg ⊢
    omega
theorem StB.le {F : List F3} {m i : Nat} {A V : List (List F3)} (h : StB F m i A V) (hi : i < 3) : V.length ≤ 3600 ∧ A.length ≤ 14400 := by
  have h1 : 60 ^ i ≤ 60 ^ 2 := Nat.pow_le_pow_right (by omega) (by omega)
  have := h.v; have := h.a
  omega

set_option maxRecDepth 100000 in
set_option maxHeartbeats 6000000 in
theorem sets_any (L N : Int) (aP : Option Addr) (cP : Nat) (P : List F3) (F : Int) (m : Nat) (w : World) (hL : 1 ≤ L ∧ L ≤ 5) (hN : 1 ≤ N ∧ N ≤ 5) (hm : m ≤ 3) : Calls Try.prog 63 #[.agg #[.int .i64 L, .int .i64 N, .slice aP P.length cP, .int .i64 F], .int .i64 (m : Int)] w (LLP (setsL L N m) w) := by
  obtain ⟨j0, hj0, jz0, jz1, jz2⟩ := info_parts info25
  obtain ⟨W, hW, hb, _, x0⟩ := boxes1 w #[.int .i64 L, .int .i64 N, .slice aP P.length cP, .int .i64 F] 24
  have hfo := faultsOf_any L N aP cP P F W hL hN
  have hFl := allF_len hL hN
  unfold setsL
  generalize allF L N = F0 at *
  have c0 := x0.cell 0 rfl; have c1 := x0.cell 1 rfl; have c2 := x0.cell 2 rfl; have c3 := x0.cell 3 rfl
  go_enter Try.func63, Try.ntmps63
  go_wp2_with fail
  refine hfo.mono ?_
  rintro e W1 ⟨hb1, aF, cF, rfl, hcF, hF⟩
  obtain ⟨lF, hlF⟩ : ∃ lF, lF = F0.length := ⟨_, rfl⟩
  rw [← hlF]
  have HLF := hid hlF
  replace hb := hb.trans (hb1.mono hb.size)
  clear hW hb1 c0 c1 c2 c3 x0 hfo hlF
  have hba := below_one (w := W1) (.cells #[.slice none 0 0] 25)
  have hown := own_litN W1 25 (.slice none 0 0)
  have hrw : Rws (W1.alloc (.cells #[.slice none 0 0] 25)) [.slice none 0 0] [[]] := Rws.single (s := []) (Fy.nil _) (Nat.le_refl _)
  have hrat := Rat.of_own hown hrw
  replace hF := hF.below hba (Nat.le_refl _)
  have hsz0 : w.heap.size ≤ W1.heap.size := hb.size
  have hown2 : (W1.alloc (.cells #[.slice none 0 0] 25)).ownsRow w.heap.size 25 1 (.slice (some ⟨W1.heap.size, 0, none⟩) 1 1) 1 [.slice none 0 0] := own_base hown hsz0
  replace hb := hb.trans (hba.mono hb.size)
  have HX := hid (And.intro hown2 (And.intro hrw (And.intro hrat (And.intro hF hb))))
  clear hba hown hrw hrat hF hsz0 hown2 hb
  go_wp2
  obtain ⟨hown, hrw, hrat, hF, hb⟩ := HX.out
  clear HX
  generalize W1.heap.size = sa at *
  generalize World.alloc _ _ = Va at *
  go_loopw [1, 6, 7] (fun v1 v6 v7 wr => ∃ (i q r : Nat) (b : Option Addr) (d : Nat) (vs : List Value) (aV : Option Addr) (cV : Nat) (A V : List (List F3)), i ≤ m ∧ v1 = .int .i64 ((m - i : Nat) : Int) ∧ v6 = .slice b q d ∧ Hid (q = A.length) ∧ v7 = .slice aV r cV ∧ Hid (r = V.length) ∧ wr.ownsRow w.heap.size 25 1 (.slice b q d) q vs ∧ Rws wr vs A ∧ Rat wr aV V ∧ Fy wr aF F0 ∧ Below w.heap.size w wr ∧ Hid (StB F0 m i A V)) (fun v1 _ _ _ => (intOf v1).toNat)
  case atStart => exact ⟨0, 1, 1, _, 1, _, _, 1, [[]], [[]], Nat.zero_le _, rfl, rfl, hid rfl, rfl, hid rfl, hown, hrw, hrat, hF, hb, hid (StB.zero F0 m)⟩
  case round =>
    clear hown hrw hrat hF hb
    obtain ⟨i, q, r, b, d, vs, aV, cV, A, V, hi, rfl, rfl, hq, rfl, hr, hown, hrw, hrat, hF, hb, hst⟩ := hrel
    by_cases hlt : i < m
    · obtain ⟨hv9, ha9⟩ := hst.out.le (by omega)
      have hgr := grown_any aV cV V aF cF F0 wr hrat hF.1 hFl (by omega) (fun s hs => by have := hst.out.l s hs; omega)
      have hnx := hid (hst.out.next hFl hlt)
      have hgl := groL_len F0 V
      have hgl2 : V.length * F0.length ≤ 3600 * 60 := Nat.mul_le_mul hv9 hFl
      obtain ⟨G, hG⟩ : ∃ G, G = groL F0 V := ⟨_, rfl⟩
      rw [← hG] at hgr hnx hgl
      rw [← hr.out, ← HLF.out] at hgr
      rw [← hq.out] at ha9
      have hmi : ((m - i : Nat) : Int) > 0 := by omega
      have hwm : IntKind.i64.wrap (((m - i : Nat) : Int) - 1) = ((m - (i + 1) : Nat) : Int) := by rw [IntWalk.i64_in _ (by omega)]; omega
      obtain ⟨k, hk⟩ : ∃ k : Nat, k = m - i := ⟨_, rfl⟩
      rw [← hk] at hmi hwm ⊢
      have HK := hid hk
      clear hG hst hr hrat hv9 hk
      go_wp2_with fail
      refine hgr.mono ?_
      rintro e V1 ⟨hb1, aG, cG, rfl, hrat, hnew⟩
      obtain ⟨lG, hlG⟩ : ∃ lG, lG = G.length := ⟨_, rfl⟩
      rw [← hlG] at hgl ⊢
      have HLG := hid hlG
      have hlo : ∀ k, (Value.slice b q d).ownBlock = some k → k < wr.heap.size := fun k hk => (hown.lt k hk).2
      replace hown := own_below2 hown hb1
      replace hrw := hrw.below hb1 (Nat.le_refl _)
      replace hF := hF.below hb1 (Nat.le_refl _)
      replace hb := hb.trans (hb1.mono hb.size)
      have hge := own_ge2 hown
      have hoth := Oth.of_own hown
      have hsz := hb.size
      obtain ⟨us, hcl, hru⟩ := hrat
      have hul : us.length = lG * 1 := by rw [hru.1, hlG, Nat.mul_one]
      have hu1 := hru.one
      replace hgl : lG ≤ 216000 := Nat.le_trans hgl (Nat.le_trans hgl2 (by omega))
      clear hgr hb1 hlG hgl2
      go_wp2_with (at_builtin; refine wpList_appAt rfl (.tmp 19) (.tmp 20) 67 rfl w.heap.size 25 j0 (.slice none 0 0) 1 24 under67 hj0 jz0 jz1 jz2 rfl (by decide) (.slice b q d) q vs rfl hown aG lG cG us rfl hul hcl hu1 (by unfold maxLen; omega) (by omega) hsz ?_; intro v3 W3 hown3 hg3 hat)
      obtain ⟨a3, c3, rfl⟩ := own_slice2 hown3
      have hb3 := hb.grown hg3 hsz hge
      have hrw3 : Rws W3 (vs ++ us) (A ++ G) := (hrw.gro hg3 hoth).app (hru.gro hg3 hoth)
      have hrat3 : Rat W3 aG G := Rat.gro ⟨us, hcl, hru⟩ hg3 hoth (fun ad e e2 => by have := hlo _ e2; have := hnew ad e; omega)
      have hF3 := hF.gro hg3 hoth
      have hq3 := hid (show q + lG = (A ++ G).length by rw [List.length_append, ← hq.out, ← HLG.out])
      have HX := hid (And.intro hown3 (And.intro hrw3 (And.intro hrat3 (And.intro hF3 hb3))))
      clear hown hrw hrw3 hown3 hrat3 hF3 hb3 hF hb hat hg3 hcl hru hul hu1 hoth hge hlo hnew hq
      go_wp2
      go_roundw
      case rel =>
        obtain ⟨hown, hrw, hrat, hF, hb⟩ := HX.out
        exact ⟨i + 1, q + lG, lG, a3, c3, vs ++ us, aG, cG, A ++ G, G, by omega, by go_num, rfl, hq3, rfl, HLG, hown, hrw, hrat, hF, hb, hnx⟩
      case measure => have := HK.out; simp [intOf]; omega
    · obtain rfl : i = m := by omega
      have he := hst.out.eq
      rw [Nat.sub_self, setsI] at he
      have hq2 := hq.out
      have hres : LLP (setsI F0 i [[]] [[]]) w (.returned (.slice b q d)) wr := by
        rw [← he, hq2] at *
        exact ⟨hb, b, d, rfl, Rat.of_own hown hrw, fun ad e => own_new2 hown ad e⟩
      have HR := hid hres
      have hz : ((i - i : Nat) : Int) = 0 := by omega
      rw [hz]
      clear hres hown hrw he hq2 hq hr hst hrat hF
      go_wp2
      go_ret
      exact HR.out

theorem filter_yes {p : List F3 → Bool} {T : List (List F3)} {s : List F3} (h : p s = true) : (T ++ [s]).filter p = T.filter p ++ [s] := by simp [List.filter_append, h]
theorem filter_no {p : List F3 → Bool} {T : List (List F3)} {s : List F3} (h : p s = false) : (T ++ [s]).filter p = T.filter p := by simp [List.filter_append, h]
theorem setsL_len {L N : Int} (hL : 1 ≤ L ∧ L ≤ 5) (hN : 1 ≤ N ∧ N ≤ 5) {m : Nat} (hm : m ≤ 3) : (setsL L N m).length ≤ 900000 := by
  have hF := allF_len hL hN
  have key : ∀ i : Nat, i ≤ m → ∃ A V, StB (allF L N) m i A V := fun i => by
    induction i with
    | zero => exact fun _ => ⟨_, _, StB.zero _ _⟩
    | succ i ih =>
        intro h
        obtain ⟨A, V, hs⟩ := ih (by omega)
        exact ⟨_, _, hs.next hF (by omega)⟩
  obtain ⟨A, V, hs⟩ := key m (Nat.le_refl _)
  have he := hs.eq
  rw [Nat.sub_self, setsI] at he
  unfold setsL
  rw [← he]
  have := hs.a
  have h1 : 60 ^ m ≤ 60 ^ 3 := Nat.pow_le_pow_right (by omega) hm
  omega

set_option maxRecDepth 100000 in
set_option maxHeartbeats 6000000 in
theorem truthsOf_any (L N : Int) (aP : Option Addr) (cP : Nat) (P : List F3) (F : Int) (w : World) (hP : Pz w aP P) (hv : vB L N P F = true) : Calls Try.prog 91 #[.agg #[.int .i64 L, .int .i64 N, .slice aP P.length cP, .int .i64 F]] w (LLP (truL L N P F) w) := by
  obtain ⟨j0, hj0, jz0, jz1, jz2⟩ := info_parts info25
  obtain ⟨W, hW, hb, _, x0⟩ := boxes1 w #[.int .i64 L, .int .i64 N, .slice aP P.length cP, .int .i64 F] 24
  obtain ⟨hL, hN, hP8, hF3, _⟩ := vB_siz hv
  have hpr := vB_pr hv
  replace hP := hP.below hb (Nat.le_refl _)
  have hPz := hP.2 (by omega)
  have hSL := setsL_len hL hN (m := F.toNat) (by omega)
  have hex := fun (s : List F3) (hs : s ∈ setsL L N F.toNat) a c v (h1 : Fz v a s) (h2 : Fz v aP P) => explains_any L N aP cP P F a aP c cP s P v h1 h2 hL hN hpr (setB_ok hv ((setsL_mem hL hN).1 hs).1)
  obtain ⟨f, rfl⟩ : ∃ f : Nat, F = (f : Int) := ⟨F.toNat, by omega⟩
  rw [Int.toNat_natCast] at *
  have hse := sets_any L N aP cP P (f : Int) f W hL hN (by omega)
  unfold truL
  rw [Int.toNat_natCast]
  have HEX := hid hex
  obtain ⟨T, hT⟩ : ∃ T, T = setsL L N f := ⟨_, rfl⟩
  rw [← hT] at hse hSL HEX ⊢
  clear hT hex hpr hv hP hL hN hF3
  have c0 := x0.cell 0 rfl; have c1 := x0.cell 1 rfl; have c2 := x0.cell 2 rfl; have c3 := x0.cell 3 rfl
  go_enter Try.func91, Try.ntmps91
  go_wp2_with fail
  refine hse.mono ?_
  rintro e W1 ⟨hb1, aT, cT, rfl, hrat, _⟩
  obtain ⟨n, hn⟩ : ∃ n, n = T.length := ⟨_, rfl⟩
  rw [← hn] at hSL ⊢
  have HN := hid hn
  have hbw := hb.trans (hb1.mono hb.size)
  have hbs := hbw.size
  replace x0 := x0.below hb1
  replace hPz := hPz.below hb1 (Nat.le_refl _)
  clear hW hb hb1 c0 c1 c2 c3 hse hn
  go_wp2
  go_loopw [3, 5, 11] (fun v3 v5 v11 wr => ∃ (j q : Nat) (b : Option Addr) (d : Nat) (vs : List Value), j ≤ n ∧ Hid (q = ((T.take j).filter fun s => exB N s P).length) ∧ v11 = .int .i64 (j : Int) ∧ v3 = .slice b q d ∧ wr.ownsRow W1.heap.size 25 1 (.slice b q d) q vs ∧ Below W1.heap.size W1 wr ∧ Rws wr vs ((T.take j).filter fun s => exB N s P)) (fun _ _ v11 _ => n - (intOf v11).toNat)
  case atStart => exact ⟨0, 0, none, 0, [], Nat.zero_le _, hid rfl, rfl, rfl, World.ownsRow_nil _ _ _ _, Below.refl _ _, Rws.nil _⟩
  case round =>
    obtain ⟨j, q, b, d, vs, hj, hq, rfl, rfl, hown, hb, hrw⟩ := hrel
    by_cases hlt : j < n
    · have hqj : q ≤ j := by
        have h1 := List.length_filter_le (fun s => exB N s P) (T.take j)
        rw [List.length_take] at h1
        have := hq.out; omega
      obtain ⟨bR, oR, s, a', c', rfl, hbl, hc, hsc, hfy, hmem, _, htk⟩ := (hrat.below hb (Nat.le_refl _)).at (k := j) (by rw [← HN.out]; exact hlt)
      have hjI : (j : Int) < n := by omega
      have hz0 : (0 : Int) ≤ (j : Int) := by omega
      have hft := fun v h1 h2 => HEX.out s hmem a' c' v h1 h2
      obtain ⟨ls, hls⟩ : ∃ ls, ls = s.length := ⟨_, rfl⟩
      rw [← hls] at hft hc hsc
      have HLS := hid hls
      have hPr := hPz.below hb (Nat.le_refl _)
      have xr := x0.below hb
      clear hls hmem
      have c0 := xr.cell 0 rfl; have c1 := xr.cell 1 rfl; have c2 := xr.cell 2 rfl; have c3 := xr.cell 3 rfl
      cases hfb : exB N s P
      · rw [hfb] at hft
        have hgn := filter_no (p := fun s => exB N s P) (T := T.take j) hfb
        rw [← htk.out] at hgn
        have HG := hid hgn
        clear hgn htk hfb xr
        go_wp2_with fail
        refine (hft _ hfy.1 hPr).mono ?_
        rintro e V1 ⟨rfl, hb3⟩
        replace hown := own_below2 hown hb3
        replace hrw := hrw.below hb3 (Nat.le_refl _)
        replace hb := hb.trans (hb3.mono hb.size)
        have HX := hid (And.intro hown (And.intro hrw hb))
        clear hft c0 c1 c2 c3 hb3 hc hfy hown hrw hPr hb
        go_wp2
        go_roundw
        case rel =>
          obtain ⟨hown, hrw, hb⟩ := HX.out
          exact ⟨j + 1, q, b, d, vs, by omega, hid (by rw [HG.out]; exact hq.out), by go_num, rfl, hown, hb, by rw [HG.out]; exact hrw⟩
        case measure => simp [intOf]; omega
      · rw [hfb] at hft
        have hgn := filter_yes (p := fun s => exB N s P) (T := T.take j) hfb
        rw [← htk.out] at hgn
        have HG := hid hgn
        clear hgn htk hfb xr
        go_wp2_with fail
        refine (hft _ hfy.1 hPr).mono ?_
        rintro e V1 ⟨rfl, hb3⟩
        have hba := below_one (w := V1) (.cells #[.slice a' ls c'] 25)
        have hcl := Cls.of_bx (Bx.new V1 #[.slice a' ls c'] 25)
        replace hown := own_below2 (own_below2 hown hb3) hba
        replace hrw := (hrw.below hb3 (Nat.le_refl _)).below hba (Nat.le_refl _)
        replace hfy := (hfy.below hb3 (Nat.le_refl _)).below hba (Nat.le_refl _)
        replace hb := (hb.trans (hb3.mono hb.size)).trans (hba.mono (hb.trans (hb3.mono hb.size)).size)
        have hge := own_ge2 hown
        have hoth := Oth.of_own hown
        have hsz := hb.size
        clear hft c0 c1 c2 c3 hb3 hc hPr hba
        go_wp2_with (at_builtin; refine wpList_appAt rfl (.tmp 20) (.tmp 22) 67 rfl W1.heap.size 25 j0 (.slice none 0 0) 1 24 under67 hj0 jz0 jz1 jz2 rfl (by decide) (.slice b q d) q vs rfl hown (some ⟨V1.heap.size, 0, none⟩) 1 1 [.slice a' ls c'] rfl rfl hcl (by simp; rfl) (by unfold maxLen; omega) (by omega) hsz ?_; intro v3 W3 hown3 hg3 hat)
        obtain ⟨a3, c3, rfl⟩ := own_slice2 hown3
        have hb3 := hb.grown hg3 hsz hge
        have hrw3 : Rws W3 (vs ++ [.slice a' ls c']) ((T.take (j + 1)).filter fun s => exB N s P) := by
          rw [HG.out]
          have hs1 : Rws W3 [.slice a' s.length c'] [s] := Rws.single (hfy.gro hg3 hoth) (by rw [← HLS.out]; exact hsc)
          rw [← HLS.out] at hs1
          exact (hrw.gro hg3 hoth).app hs1
        have hq3 := hid (show q + 1 = ((T.take (j + 1)).filter fun s => exB N s P).length by rw [HG.out, List.length_append, ← hq.out]; rfl)
        have HX := hid (And.intro hown3 (And.intro hrw3 hb3))
        clear hown hrw hrw3 hown3 hb3 hfy hb hat hg3 hcl hoth hge hq HG
        go_wp2
        go_roundw
        case rel =>
          obtain ⟨hown, hrw, hb⟩ := HX.out
          exact ⟨j + 1, q + 1, a3, c3, vs ++ [.slice a' ls c'], by omega, hq3, by go_num, rfl, hown, hb, hrw⟩
        case measure => simp [intOf]; omega
    · obtain rfl : j = n := by omega
      have e : T.take j = T := by rw [HN.out, List.take_length]
      have hq2 := hq.out
      rw [e] at hrw hq2
      have hres : LLP (T.filter fun s => exB N s P) w (.returned (.slice b q d)) wr := by
        subst hq2
        exact ⟨hbw.trans (hb.mono hbs), b, d, rfl, Rat.of_own hown hrw, fun ad e => Nat.le_trans hbs (own_new2 hown ad e)⟩
      have HR := hid hres
      have hjI : ¬ (j : Int) < (j : Int) := by omega
      clear hres hown hrw e hq hq2
      go_wp2
      go_ret
      exact HR.out

/-- The error of a box that is asked for its truths. -/
def akE (L N : Int) (P : List F3) (F : Int) (o : Bool) : Int := if chE L N P F o = 0 then (if truL L N P F = [] then 3 else 0) else chE L N P F o
/-- The truths that it is answered with. -/
def akT (L N : Int) (P : List F3) (F : Int) (o : Bool) : List (List F3) := if akE L N P F o = 0 then truL L N P F else []
theorem akE_ok {L N F : Int} {P : List F3} {o : Bool} (h : akE L N P F o = 0) : vB L N P F = true ∧ o = true ∧ truL L N P F ≠ [] ∧ akT L N P F o = truL L N P F := by
  have h0 := h
  unfold akE at h
  by_cases h1 : chE L N P F o = 0
  · rw [if_pos h1] at h
    obtain ⟨h2, h3⟩ := chE_v h1
    refine ⟨h2, h3, fun e => ?_, by unfold akT; rw [if_pos h0]⟩
    rw [if_pos e] at h; cases h
  · rw [if_neg h1] at h; exact absurd h h1
theorem akT_no {L N F : Int} {P : List F3} {o : Bool} (h : akE L N P F o ≠ 0) : akT L N P F o = [] := by unfold akT; rw [if_neg h]
/-- What ask hands back. -/
def AkP (L N : Int) (P : List F3) (F : Int) (o : Bool) (w : World) (e : Ending) (w' : World) : Prop :=
  Below w.heap.size w w' ∧ ∃ (a : Option Addr) (c : Nat), e = .returned (.tuple #[.slice a (akT L N P F o).length c, .int .i64 (akE L N P F o)]) ∧ Rat w' a (akT L N P F o)
theorem Rat.nil (w : World) (a : Option Addr) : Rat w a [] := ⟨[], fun j u h => by simp at h, Rws.nil _⟩
theorem ak_bad {L N F : Int} {P : List F3} {o : Bool} {w w' : World} {E : Int} (hb : Below w.heap.size w w') (hE : E ≠ 0) (h : akE L N P F o = E) : AkP L N P F o w (.returned (.tuple #[.slice none 0 0, .int .i64 E])) w' := by
  have h1 : akT L N P F o = [] := akT_no (by rw [h]; exact hE)
  refine ⟨hb, none, 0, ?_, ?_⟩
  · rw [h1, h]; rfl
  · rw [h1]; exact Rat.nil _ _
theorem ak_good {L N F : Int} {P : List F3} {o : Bool} {w w' : World} {a : Option Addr} {n c : Nat} (hb : Below w.heap.size w w') (hn : n = (truL L N P F).length) (hr : Rat w' a (truL L N P F)) (h : akE L N P F o = 0) : AkP L N P F o w (.returned (.tuple #[.slice a n c, .int .i64 0])) w' := by
  have h1 := (akE_ok h).2.2.2
  refine ⟨hb, a, c, ?_, by rw [h1]; exact hr⟩
  rw [h1, h, hn]

set_option maxRecDepth 100000 in
set_option maxHeartbeats 4000000 in
theorem ask_any (L N : Int) (aP : Option Addr) (cP : Nat) (P : List F3) (F : Int) (o : Bool) (w : World) (hP : Pz w aP P) : Calls Try.prog 65 #[.agg #[.int .i64 L, .int .i64 N, .slice aP P.length cP, .int .i64 F], .bool o] w (AkP L N P F o w) := by
  obtain ⟨W, hW, hb, _, x0⟩ := boxes1 w #[.int .i64 L, .int .i64 N, .slice aP P.length cP, .int .i64 F] 24
  replace hP := hP.below hb (Nat.le_refl _)
  have hck := check_any L N aP cP P F o W hP.2 hP.1
  have hE1 := hid (show chE L N P F o ≠ 0 → akE L N P F o = chE L N P F o from fun h => by unfold akE; rw [if_neg h])
  have hE2 := hid (show chE L N P F o = 0 → truL L N P F = [] → akE L N P F o = 3 from fun h h2 => by unfold akE; rw [if_pos h, if_pos h2])
  have hE3 := hid (show chE L N P F o = 0 → truL L N P F ≠ [] → akE L N P F o = 0 from fun h h2 => by unfold akE; rw [if_pos h, if_neg h2])
  have hto := fun (h : chE L N P F o = 0) v (hv : Pz v aP P) => truthsOf_any L N aP cP P F v hv (chE_v h).1
  obtain ⟨E, hEE⟩ : ∃ E, E = chE L N P F o := ⟨_, rfl⟩
  rw [← hEE] at hck hE1 hE2 hE3 hto
  clear hEE
  have c0 := x0.cell 0 rfl; have c1 := x0.cell 1 rfl; have c2 := x0.cell 2 rfl; have c3 := x0.cell 3 rfl
  by_cases hE : E = 0
  · subst hE
    replace hto := hto rfl
    go_enter Try.func65, Try.ntmps65
    go_wp2_with fail
    refine hck.mono ?_
    rintro e W1 ⟨rfl, hb1⟩
    replace hb := hb.trans (hb1.mono hb.size)
    replace x0 := x0.below hb1
    replace hP := hP.below hb1 (Nat.le_refl _)
    clear hW hb1 c0 c1 c2 c3 hck
    have c0 := x0.cell 0 rfl; have c1 := x0.cell 1 rfl; have c2 := x0.cell 2 rfl; have c3 := x0.cell 3 rfl
    go_wp2_with fail
    refine (hto _ hP).mono ?_
    rintro e W2 ⟨hb1, a, c, rfl, hrat, _⟩
    replace hb := hb.trans (hb1.mono hb.size)
    clear hb1 c0 c1 c2 c3 x0 hP hto
    obtain ⟨n, hn⟩ : ∃ n, n = (truL L N P F).length := ⟨_, rfl⟩
    rw [← hn]
    by_cases h0 : n = 0
    · have hT : truL L N P F = [] := List.eq_nil_of_length_eq_zero (by omega)
      have HR := hid (ak_bad hb (by omega) (hE2.out (by simp) hT))
      subst h0
      clear hn hT hrat hb hE1 hE2 hE3
      go_wp2
      go_ret2
      exact HR.out
    · have hT : truL L N P F ≠ [] := fun e => by rw [e] at hn; simp at hn; omega
      have HR := hid (ak_good (c := c) hb hn hrat (hE3.out (by simp) hT))
      have hB : ((n : Int) == 0) = false := by rw [beq_eq_false_iff_ne]; omega
      clear hn hT hrat hb h0 hE1 hE2 hE3
      go_wp2
      go_ret2
      exact HR.out
  · have hB : (E != 0) = true := by simpa using hE
    go_enter Try.func65, Try.ntmps65
    go_wp2_with fail
    refine hck.mono ?_
    rintro e W1 ⟨rfl, hb1⟩
    replace hb := hb.trans (hb1.mono hb.size)
    have HR := hid (ak_bad hb hE (hE1.out hE))
    clear hW hb1 c0 c1 c2 c3 hck x0 hP hto hE1 hE2 hE3 hb hE
    go_wp2
    go_ret2
    exact HR.out

set_option maxRecDepth 100000 in
set_option maxHeartbeats 2000000 in
theorem Many_any (L N : Int) (aP : Option Addr) (cP : Nat) (P : List F3) (F : Int) (w : World) (hP : Pz w aP P) : Calls Try.prog 29 #[.agg #[.int .i64 L, .int .i64 N, .slice aP P.length cP, .int .i64 F]] w fun e w' => e = .returned (.tuple #[.int .i64 ((akT L N P F true).length : Int), .int .i64 (akE L N P F true)]) ∧ Below w.heap.size w w' := by
  obtain ⟨W, hW, hb, _, x0⟩ := boxes1 w #[.int .i64 L, .int .i64 N, .slice aP P.length cP, .int .i64 F] 24
  replace hP := hP.below hb (Nat.le_refl _)
  have hak := ask_any L N aP cP P F true W hP
  unfold AkP at hak
  generalize akT L N P F true = T at *
  generalize akE L N P F true = E at *
  have c0 := x0.cell 0 rfl; have c1 := x0.cell 1 rfl; have c2 := x0.cell 2 rfl; have c3 := x0.cell 3 rfl
  go_enter Try.func29, Try.ntmps29
  go_wp2_with fail
  refine hak.mono ?_
  rintro e W1 ⟨hb1, a, d, rfl, _⟩
  replace hb := hb.trans (hb1.mono hb.size)
  clear hW hb1 c0 c1 c2 c3 hak x0 hP
  go_wp2
  go_ret2
  exact ⟨rfl, hb⟩
end Go.Proofs.Ytmpihcencnkpbaa
