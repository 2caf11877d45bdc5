import Derived.Test.YtmpihcencnkpbaaT5
import Derived.ArgAppend
/-! All sets of a box: those of one fault more. -/
namespace Go.Proofs.Ytmpihcencnkpbaa
set_option linter.unusedSimpArgs false
set_option linter.unusedVariables false
open Go Go.RowKit

theorem Bx.gro {w w' : World} {b : Nat} {vs : Array Value} {T : TypeId} {r : Option Nat} (h : Bx w b vs T) (hg : w.grownBy w' r) (hne : r ≠ some b) : Bx w' b vs T := by
  have hl := h.lt
  unfold Bx at *
  rw [hg.block b hl (fun e => hne (by first | exact e | exact e.symm))]; exact h
theorem slice_hm25 (a : Option Addr) (n c k : Nat) (hk : k ≤ c) (w : World) : (Instr.slice 25 (.slice a n c) none (some (.int .i64 (k : Int))) (some (.int .i64 (k : Int)))).run Try.prog w = .ok (.slice a k k) w := by
  have ht : Try.prog.underlying 25 = some (.slice (Try.prog.elem 25)) := by kernel_rfl
  have he : Try.prog.elem 25 = 63 := by kernel_rfl
  have hb : (Instr.sliceBounds true n c none (some (.int .i64 (k : Int))) (some (.int .i64 (k : Int)))).run Try.prog w = .ok (0, k, k) w := by
    simp [Instr.sliceBounds, run_sliceBound, hk]
  rw [run_slice_any w 25 a n c ht, hb]
  simp only [Result.andThen, he, size63]
  rw [sliced_h]
theorem addP (b o j : Nat) : (⟨b, o, none⟩ : Addr).add j = ⟨b, o + j, none⟩ := by unfold Addr.add; split <;> simp_all
theorem Below.of_gr {w w' : World} (h : w.grownBy w' none) : Below w.heap.size w w' := ⟨h.os, h.tape, h.output, h.size, fun k hk => h.block k hk (fun e => by cases e)⟩
theorem groIn_yes {s : List F3} {F : List F3} {f : F3} (h : fitB s f = true) : groIn s (F ++ [f]) = groIn s F ++ [s ++ [f]] := by
  simp [groIn, List.filter_append, h]
theorem groIn_no {s : List F3} {F : List F3} {f : F3} (h : fitB s f = false) : groIn s (F ++ [f]) = groIn s F := by
  simp [groIn, List.filter_append, h]
theorem groL_snoc (F : List F3) (T : List (List F3)) (s : List F3) : groL F (T ++ [s]) = groL F T ++ groIn s F := by simp [groL]
theorem gro_bd {F : List F3} {SS : List (List F3)} (hF : F.length ≤ 60) (hS : SS.length ≤ 30000) (s : List F3) (j i : Nat) : (groL F (SS.take j) ++ groIn s (F.take i)).length ≤ 1800060 := by
  have h1 := groL_len F (SS.take j)
  have h2 := groIn_len s (F.take i)
  have h3 : (SS.take j).length * F.length ≤ 30000 * 60 := Nat.mul_le_mul (by rw [List.length_take]; omega) hF
  rw [List.length_take] at h2
  rw [List.length_append]; omega
theorem Fz.none_len {w : World} {s : List F3} (h : Fz w none s) : s.length = 0 := by
  rcases Nat.eq_zero_or_pos s.length with h0 | h0
  · exact h0
  · obtain ⟨b, off, e, _⟩ := h.2.2 0 h0
    cases e

set_option maxRecDepth 100000 in
set_option maxHeartbeats 6000000 in
theorem grown_any (aR : Option Addr) (cR : Nat) (SS : List (List F3)) (aF : Option Addr) (cF : Nat) (F : List F3) (w : World) (hR : Rat w aR SS) (hF : Fz w aF F) (hFl : F.length ≤ 60) (hSl : SS.length ≤ 30000) (hs : ∀ s ∈ SS, s.length ≤ 100) :
    Calls Try.prog 89 #[.slice aR SS.length cR, .slice aF F.length cF] w (LLP (groL F SS) w) := by
  obtain ⟨i0, hi0, iz0, iz1, iz2⟩ := info_parts info63
  obtain ⟨j0, hj0, jz0, jz1, jz2⟩ := info_parts info25
  obtain ⟨n, hn⟩ : ∃ n, n = SS.length := ⟨_, rfl⟩
  obtain ⟨m, hm⟩ : ∃ m, m = F.length := ⟨_, rfl⟩
  have hbd := hid (fun s j i => gro_bd hFl hSl s j i)
  rw [← hn] at hSl ⊢
  rw [← hm] at hFl ⊢
  have HN := hid hn
  have HM := hid hm
  have HS := hid hs
  clear hn hm hs
  go_enter Try.func89, Try.ntmps89
  go_wp2
  go_loopw [5, 7, 9, 12, 18] (fun v5 v7 v9 v12 v18 wr => ∃ (j q : Nat) (b : Option Addr) (d : Nat) (vs : List Value), j ≤ n ∧ Hid (q = (groL F (SS.take j)).length) ∧ v12 = .int .i64 (j : Int) ∧ v5 = .slice b q d ∧ wr.ownsRow w.heap.size 25 1 (.slice b q d) q vs ∧ Below w.heap.size w wr ∧ Rws wr vs (groL F (SS.take j))) (fun _ _ _ v12 _ _ => n - (intOf v12).toNat)
  case atStart => exact ⟨0, 0, none, 0, [], Nat.zero_le _, hid rfl, rfl, rfl, World.ownsRow_nil _ _ _ _, Below.refl _ _, Rws.nil _⟩
  case round =>
    obtain ⟨j, q, b, d, vs, hj, hq, rfl, rfl, hown, hb, hrw⟩ := hrel
    by_cases hlt : j < n
    · obtain ⟨bR, oR, s, a', c', rfl, hbl, hc, hsc, hfy, hmem, _, htk⟩ := (hR.below hb (Nat.le_refl _)).at (k := j) (by rw [← HN.out]; exact hlt)
      have hjI : (j : Int) < n := by omega
      have hsl := HS.out s hmem
      obtain ⟨ls, hls⟩ : ∃ ls, ls = s.length := ⟨_, rfl⟩
      rw [← hls] at hc hsc hsl
      have HLS := hid hls
      have e1 : groL F (SS.take j) = groL F (SS.take j) ++ groIn s (F.take 0) := by simp [groIn]
      have hq2 := hq.out
      rw [e1] at hrw hq2
      have HQ := hid hq2
      have HTK := hid htk.out
      have hfy0 := hfy
      have hwr := hb.size
      clear e1 hq hq2 hls hmem htk
      go_wp2
      clear hc
      go_loopw [5, 9, 18] (fun v5 v9 v18 wi => ∃ (i q : Nat) (b : Option Addr) (d : Nat) (vs : List Value), i ≤ m ∧ Hid (q = (groL F (SS.take j) ++ groIn s (F.take i)).length) ∧ v18 = .int .i64 (i : Int) ∧ v5 = .slice b q d ∧ wi.ownsRow w.heap.size 25 1 (.slice b q d) q vs ∧ Below w.heap.size w wi ∧ Rws wi vs (groL F (SS.take j) ++ groIn s (F.take i)) ∧ Fy wi a' s) (fun _ _ v18 _ => m - (intOf v18).toNat)
      case atStart => exact ⟨0, q, b, d, vs, Nat.zero_le _, HQ, rfl, rfl, hown, hb, hrw, hfy⟩
      case round =>
        clear hown hb hrw HQ hfy hfy0
        obtain ⟨i, q, b, d, vs, hi, HQ, rfl, rfl, hown, hb, hrw, hfy⟩ := hrel
        by_cases hil : i < m
        · obtain ⟨bF, oF, f, rfl, hbl2, ⟨q0, q1, q2⟩, hfi, _, _, _, htk⟩ := (hF.below hb (Nat.le_refl _)).at (k := i) (by rw [← HM.out]; exact hil)
          have hiI : (i : Int) < m := by omega
          have hz0 : (0 : Int) ≤ (i : Int) := by omega
          have hbq := hbd.out s j i
          rw [← HQ.out] at hbq
          have hft := fun v hv => fits_any a' c' s f v hv
          rw [← HLS.out] at hft
          have hba := below_one (w := wr) (.cells #[.int .i64 f.k, .int .i64 f.a, .int .i64 f.b] 63)
          have hb2 := hb.trans (hba.mono hb.size)
          have x1 := Bx.new wr #[.int .i64 f.k, .int .i64 f.a, .int .i64 f.b] 63
          have hown2 := own_below2 hown hba
          have hrw2 := hrw.below hba (Nat.le_refl _)
          have hfy2 := hfy.below hba (Nat.le_refl _)
          have hlo : ∀ k, (Value.slice b q d).ownBlock = some k → k < wr.heap.size := fun k hk => (hown.lt k hk).2
          have HXa := hid (And.intro hb2 (And.intro x1 (And.intro hown2 (And.intro hrw2 hfy2))))
          have HFI := hid hfi
          have HLO := hid hlo
          clear hb hba hb2 x1 hown hown2 hrw hrw2 hfy hfy2 hfi hlo
          go_upto_region 8 with fail
          obtain ⟨hb, x1, hown, hrw, hfy⟩ := HXa.out
          clear HXa
          generalize wr.heap.size = sa at *
          generalize World.alloc _ _ = Va at *
          clear q0 q1 q2
          have d0 := x1.cell 0 rfl; have d1 := x1.cell 1 rfl; have d2 := x1.cell 2 rfl
          cases hfb : fitB s f
          · rw [hfb] at hft
            have hgn := groIn_no (F := F.take i) hfb
            rw [← htk.out] at hgn
            have HG := hid hgn
            clear hgn htk hfb hbq HLO
            go_wp2_with fail
            refine (hft _ hfy.1).mono ?_
            rintro e V1 ⟨rfl, hb3⟩
            replace hown := own_below2 hown hb3
            replace hrw := hrw.below hb3 (Nat.le_refl _)
            replace hfy := hfy.below hb3 (Nat.le_refl _)
            replace hb := hb.trans (hb3.mono hb.size)
            clear hft d0 d1 d2 x1 hb3
            have HX := hid (And.intro hown (And.intro hrw (And.intro hfy hb)))
            clear hown hrw hfy hb
            go_wp2
            go_roundw
            case rel =>
              obtain ⟨hown, hrw, hfy, hb⟩ := HX.out
              exact ⟨i + 1, q, b, d, vs, by omega, hid (by rw [HG.out]; exact HQ.out), by go_num, rfl, hown, hb, by rw [HG.out]; exact hrw, hfy⟩
            case measure => simp [intOf]; omega
          · rw [hfb] at hft
            have hgn := groIn_yes (F := F.take i) hfb
            rw [← htk.out] at hgn
            have HG := hid hgn
            clear hgn htk hfb
            go_wp2_with fail
            refine (hft _ hfy.1).mono ?_
            rintro e V1 ⟨rfl, hb3⟩
            replace hown := own_below2 hown hb3
            replace hrw := hrw.below hb3 (Nat.le_refl _)
            replace hfy := hfy.below hb3 (Nat.le_refl _)
            replace hb := hb.trans (hb3.mono hb.size)
            replace x1 := x1.below hb3
            clear hft d0 d1 d2 hb3
            have hsl3 := slice_hm25 a' ls c' ls hsc
            go_upto_region 9 with fail
            have hbd9 := (Below.refl V1.heap.size V1).drew
            replace hown := own_below2 hown hbd9
            replace hrw := hrw.below hbd9 (Nat.le_refl _)
            replace hfy := hfy.below hbd9 (Nat.le_refl _)
            clear hbd9
            have hbd := (Below.refl V1.heap.size V1).drew
            have S0 := (x1.below hbd)
            replace hb := hb.trans (hbd.mono hb.size)
            clear hbd x1
            refine wp_region_head 12 (fun w' => Bx w' sa #[.int .i64 f.k, .int .i64 f.a, .int .i64 f.b] 63) (by kernel_rfl) rfl ?_
            generalize V1.drew = Y0 at *
            refine HeadAt.take (i := 0) (.slice b q d) rfl (by kernel_rfl) (.inl ⟨rfl, fun _ _ => by simp [go_sem]⟩) S0 ?_
            (try simp only [Act.put, List.getElem_toArray, List.getElem_cons_succ, List.getElem_cons_zero, List.setIfInBounds_toArray, List.set_cons_succ, List.set_cons_zero])
            refine HeadAt.take (i := 1) (.slice a' ls c') rfl (by kernel_rfl) (.inl ⟨rfl, fun _ _ => by simp [go_sem]⟩) S0 ?_
            (try simp only [Act.put, List.getElem_toArray, List.getElem_cons_succ, List.getElem_cons_zero, List.setIfInBounds_toArray, List.set_cons_succ, List.set_cons_zero])
            refine HeadAt.take (i := 2) (.slice a' ls c') rfl (by kernel_rfl) (.inl ⟨rfl, fun _ _ => by simp [go_sem]⟩) S0 ?_
            (try simp only [Act.put, List.getElem_toArray, List.getElem_cons_succ, List.getElem_cons_zero, List.setIfInBounds_toArray, List.set_cons_succ, List.set_cons_zero])
            refine HeadAt.take (i := 3) (.int .i64 (ls : Int)) rfl (by kernel_rfl) (.inl ⟨rfl, fun _ _ => by simp [go_sem]⟩) S0 ?_
            (try simp only [Act.put, List.getElem_toArray, List.getElem_cons_succ, List.getElem_cons_zero, List.setIfInBounds_toArray, List.set_cons_succ, List.set_cons_zero])
            refine HeadAt.take (i := 4) (.slice a' ls c') rfl (by kernel_rfl) (.inl ⟨rfl, fun _ _ => by simp [go_sem]⟩) S0 ?_
            (try simp only [Act.put, List.getElem_toArray, List.getElem_cons_succ, List.getElem_cons_zero, List.setIfInBounds_toArray, List.set_cons_succ, List.set_cons_zero])
            refine HeadAt.take (i := 5) (.int .i64 (ls : Int)) rfl (by kernel_rfl) (.inl ⟨rfl, fun _ _ => by simp [go_sem]⟩) S0 ?_
            (try simp only [Act.put, List.getElem_toArray, List.getElem_cons_succ, List.getElem_cons_zero, List.setIfInBounds_toArray, List.set_cons_succ, List.set_cons_zero])
            refine HeadAt.take (i := 6) (.slice a' ls ls) rfl (by kernel_rfl) (.inl ⟨rfl, fun w' z => ?_⟩) S0 ?_
            · (simp [go_sem, hsl3])
            (try simp only [Act.put, List.getElem_toArray, List.getElem_cons_succ, List.getElem_cons_zero, List.setIfInBounds_toArray, List.set_cons_succ, List.set_cons_zero])
            refine HeadAt.take (i := 7) (.agg #[.int .i64 f.k, .int .i64 f.a, .int .i64 f.b]) rfl (by kernel_rfl) (.inl ⟨rfl, fun w' z => ?_⟩) S0 ?_
            · (have z0 := z.cell 0 rfl; have z1 := z.cell 1 rfl; have z2 := z.cell 2 rfl; simp [go_sem, z0, z1, z2])
            (try simp only [Act.put, List.getElem_toArray, List.getElem_cons_succ, List.getElem_cons_zero, List.setIfInBounds_toArray, List.set_cons_succ, List.set_cons_zero])
            refine HeadAt.one (i := 8) rfl (by kernel_rfl) ?_
            generalize hK : Upto _ _ = K0
            (try simp only [Act.put, List.getElem_toArray, List.getElem_cons_succ, List.getElem_cons_zero, List.setIfInBounds_toArray, List.set_cons_succ, List.set_cons_zero])
            have hba := below_one (w := Y0) (.cells #[.int .i64 f.k, .int .i64 f.a, .int .i64 f.b] 63)
            have hcl := Cls.of_bx (Bx.new Y0 #[.int .i64 f.k, .int .i64 f.a, .int .i64 f.b] 63)
            replace hown := own_below2 hown hba
            replace hrw := hrw.below hba (Nat.le_refl _)
            replace hfy := hfy.below hba (Nat.le_refl _)
            replace S0 := S0.below hba
            replace hb := hb.trans (hba.mono hb.size)
            have HX := hid (And.intro hown (And.intro hrw (And.intro hfy (And.intro S0 (And.intro hb hcl)))))
            clear hown hrw hfy S0 hb hcl hba
            go_wp2_with fail
            obtain ⟨hown, hrw, hfy, S0, hb, hcl⟩ := HX.out
            clear HX
            generalize Y0.heap.size = sb at *
            generalize World.alloc _ _ = Y1 at *
            subst hK
            refine ⟨S0, ?_⟩
            (try simp only [Act.put, List.getElem_toArray, List.getElem_cons_succ, List.getElem_cons_zero, List.setIfInBounds_toArray, List.set_cons_succ, List.set_cons_zero])
            refine HeadAt.one (i := 9) rfl (by kernel_rfl) ?_
            generalize hK : Upto _ _ = K0
            (try simp only [Act.put, List.getElem_toArray, List.getElem_cons_succ, List.getElem_cons_zero, List.setIfInBounds_toArray, List.set_cons_succ, List.set_cons_zero])
            have hlsn : a' = none → ls = 0 ∧ ls = 0 := fun e => by
              subst e
              have := hfy.1.none_len
              have := HLS.out
              omega
            have hlo9 : (fcells s).length = ls * 3 := by rw [fcells_len, ← HLS.out]
            have hcl9 := hfy.1.cls
            have hold : ∀ ad, a' = some ad → ∀ j u, (fcells s)[j]? = some u → Y1.cell? (ad.add j) = some u := fun ad e j u hu => by
              subst e
              obtain ⟨b1, o1, e1, _, h1⟩ := hcl9 j u hu
              cases e1
              rw [addP]; exact h1
            have hnew : ∀ j u, (fcells [f])[j]? = some u → Y1.cell? ((⟨sb, 0, none⟩ : Addr).add j) = some u := fun j u hu => by
              obtain ⟨b1, o1, e1, _, h1⟩ := hcl j u hu
              cases e1
              rw [addP]; exact h1
            go_wp2_with (at_builtin; refine wpList_append_grows _ rfl (.tmp 31) (.tmp 33) 25 rfl 63 i0 (.agg #[.int .i64 0, .int .i64 0, .int .i64 0]) 3 24 under25 hi0 iz0 iz1 iz2 rfl (by decide) a' ls ls (fcells s) rfl hlsn hlo9 hold ⟨sb, 0, none⟩ 1 1 (fcells [f]) rfl rfl hnew (fcells_one [f]) (by omega) (by unfold maxLen; omega) (by omega) ?_; intro v2 Y2 hown9 hg9)
            have hb9 : Below Y1.heap.size Y1 Y2 := Below.of_gr hg9
            have hlen9 : (s ++ [f]).length = ls + 1 := by rw [List.length_append, ← HLS.out]; rfl
            rw [← fcells_app] at hown9
            obtain ⟨a2, c2, rfl⟩ := own_slice2 hown9
            have hcap := own_cap hown9
            have hfy9 : Fy Y2 a2 (s ++ [f]) := by
              rw [← hlen9] at hown9
              exact Fy.of_own hown9 (by omega) (fun x hx => by
                rcases List.mem_append.1 hx with h | h
                · exact hfy.1.2.1 x h
                · rw [List.mem_singleton.1 h]; exact HFI.out)
            replace hown := own_below2 hown hb9
            replace hrw := hrw.below hb9 (Nat.le_refl _)
            replace hfy := hfy.below hb9 (Nat.le_refl _)
            replace S0 := S0.below hb9
            replace hb := hb.trans (hb9.mono hb.size)
            clear hg9 hb9 hown9 hold hnew hcl9 hcl hlsn hlo9
            subst hK
            refine ⟨S0, ?_⟩
            (try simp only [Act.put, List.getElem_toArray, List.getElem_cons_succ, List.getElem_cons_zero, List.setIfInBounds_toArray, List.set_cons_succ, List.set_cons_zero])
            refine HeadAt.one (i := 10) rfl (by kernel_rfl) ?_
            generalize hK : Upto _ _ = K0
            (try simp only [Act.put, List.getElem_toArray, List.getElem_cons_succ, List.getElem_cons_zero, List.setIfInBounds_toArray, List.set_cons_succ, List.set_cons_zero])
            have hba := below_one (w := Y2) (.cells #[.slice a2 (ls + 1) c2] 25)
            have hcl := Cls.of_bx (Bx.new Y2 #[.slice a2 (ls + 1) c2] 25)
            replace hown := own_below2 hown hba
            replace hrw := hrw.below hba (Nat.le_refl _)
            replace hfy := hfy.below hba (Nat.le_refl _)
            replace hfy9 := hfy9.below hba (Nat.le_refl _)
            replace S0 := S0.below hba
            replace hb := hb.trans (hba.mono hb.size)
            have HX := hid (And.intro hown (And.intro hrw (And.intro hfy (And.intro S0 (And.intro hb (And.intro hcl hfy9))))))
            clear hown hrw hfy S0 hb hcl hba hfy9
            go_wp2_with fail
            obtain ⟨hown, hrw, hfy, S0, hb, hcl, hfy9⟩ := HX.out
            clear HX
            generalize Y2.heap.size = sc at *
            generalize World.alloc _ _ = Y3 at *
            subst hK
            refine ⟨S0, ?_⟩
            (try simp only [Act.put, List.getElem_toArray, List.getElem_cons_succ, List.getElem_cons_zero, List.setIfInBounds_toArray, List.set_cons_succ, List.set_cons_zero])
            refine HeadAt.one (i := 11) rfl (by kernel_rfl) ?_
            generalize hK : Upto _ _ = K0
            (try simp only [Act.put, List.getElem_toArray, List.getElem_cons_succ, List.getElem_cons_zero, List.setIfInBounds_toArray, List.set_cons_succ, List.set_cons_zero])
            have hge := own_ge2 hown
            have hoth := Oth.of_own hown
            have hsz := hb.size
            go_wp2_with (at_builtin; refine wpList_appAt rfl (.tmp 25) (.tmp 35) 67 rfl w.heap.size 25 j0 (.slice none 0 0) 1 24 under67 hj0 jz0 jz1 jz2 rfl (by decide) (.slice b q d) q vs rfl hown (some ⟨sc, 0, none⟩) 1 1 [.slice a2 (ls + 1) c2] rfl rfl hcl (by simp; rfl) (by unfold maxLen; omega) (by omega) hsz ?_; intro v3 W3 hown3 hg3 hat)
            obtain ⟨a3, c3, rfl⟩ := own_slice2 hown3
            have hb3 := hb.grown hg3 hsz hge
            have hrw3 : Rws W3 (vs ++ [.slice a2 (ls + 1) c2]) (groL F (SS.take j) ++ groIn s (F.take (i + 1))) := by
              rw [HG.out, ← List.append_assoc]
              have hs1 : Rws W3 [.slice a2 (s ++ [f]).length c2] [s ++ [f]] := Rws.single (hfy9.gro hg3 hoth) (by rw [hlen9]; exact hcap)
              rw [hlen9] at hs1
              exact (hrw.gro hg3 hoth).app hs1
            have hq3 := hid (show q + 1 = (groL F (SS.take j) ++ groIn s (F.take (i + 1))).length by rw [HG.out, ← List.append_assoc, List.length_append, ← HQ.out]; rfl)
            replace hfy := hfy.gro hg3 hoth
            replace S0 := S0.gro hg3 (fun e => by have := HLO.out _ e; omega)
            clear hown hrw hg3 hat hoth hge hcl hfy9 HG HLO hb hcap hlen9
            subst hK
            refine ⟨S0, ?_⟩
            (try simp only [Act.put, List.getElem_toArray, List.getElem_cons_succ, List.getElem_cons_zero, List.setIfInBounds_toArray, List.set_cons_succ, List.set_cons_zero])
            refine HeadAt.done (by kernel_rfl) ?_
            (try simp only [Act.put, List.drop_succ_cons, List.drop_zero, List.getElem_toArray, List.getElem_cons_succ, List.getElem_cons_zero])
            clear S0
            go_wp2_with fail
            refine NoPanic.normal ?_
            have HX := hid (And.intro hown3 (And.intro hrw3 (And.intro hfy hb3)))
            clear hown3 hrw3 hfy hb3
            go_wp2
            go_roundw
            case rel =>
              obtain ⟨hown, hrw, hfy, hb⟩ := HX.out
              exact ⟨i + 1, q + 1, a3, c3, vs ++ [.slice a2 (ls + 1) c2], by omega, hq3, by go_num, rfl, hown, hb, hrw, hfy⟩
            case measure => simp [intOf]; omega
        · obtain rfl : i = m := by omega
          have e1 : groL F (SS.take j) ++ groIn s (F.take i) = groL F (SS.take (j + 1)) := by
            rw [HM.out, List.take_length, HTK.out, groL_snoc]
          have hq5 := HQ.out
          rw [e1] at hrw hq5
          have HQ5 := hid hq5
          have HRW := hid hrw
          have hmI : ¬ (i : Int) < (i : Int) := by omega
          clear e1 hq5 HQ hrw hfy
          go_wp2
          go_roundw
          case rel => exact ⟨j + 1, q, b, d, vs, by omega, HQ5, by go_num, rfl, hown, hb, HRW.out⟩
          case measure => simp [intOf]; omega
    · obtain rfl : j = n := by omega
      have e : SS.take j = SS := by rw [HN.out, List.take_length]
      have hq2 := hq.out
      rw [e] at hrw hq2
      have hres : LLP (groL F SS) w (.returned (.slice b q d)) wr := by
        subst hq2
        exact ⟨hb, b, d, rfl, Rat.of_own hown hrw, fun ad e => own_new2 hown ad e⟩
      have HR := hid hres
      have hjI : ¬ (j : Int) < (j : Int) := by omega
      clear hres hown hrw e hq hq2
      go_wp2
      go_ret
      exact HR.out
end Go.Proofs.Ytmpihcencnkpbaa
