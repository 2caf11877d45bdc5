import Derived.Test.YtknaljghpfeikaaT63
import Derived.Test.YtknaljghpfeikaaM13
namespace Go.Proofs.Ytknaljghpfeikaa
open Go.RowKit

theorem playsE_snoc (E : List Ev) (x : Ev) : playsE (E ++ [x]) = if 0 ≤ x.side then playsE E ++ [(x.side, x.fr)] else playsE E := by
  unfold playsE
  rw [List.filterMap_append, List.filterMap_cons, List.filterMap_nil]
  unfold evPlay
  by_cases h : 0 ≤ x.side
  · rw [if_pos h, if_pos h]
  · rw [if_neg h, if_neg h, List.append_nil]
theorem stepsE_snoc (E : List Ev) (x : Ev) : stepsE (E ++ [x]) = if x.side = -1 then stepsE E + 1 else stepsE E := by
  unfold stepsE
  rw [List.countP_append, List.countP_cons, List.countP_nil]
  by_cases h : x.side = -1 <;> simp [h]
theorem ev_at {E : List Ev} {i : Nat} (h : i < E.length) : ∃ x, E[i]? = some x := ⟨_, List.getElem?_eq_getElem h⟩
theorem own_prsA8 {w : World} {B n c : Nat} {e : TypeId} {a : Option Addr} {xs : List (Int × Int)} (h : w.ownsRow B e 2 (.slice a n c) n (pcells xs)) (hn : xs.length = n) (hl : n ≤ 1000000) (hb : ∀ x ∈ xs, -9223372036854775808 ≤ x.1 ∧ x.1 ≤ 9223372036854775807 ∧ -9223372036854775808 ≤ x.2 ∧ x.2 ≤ 9223372036854775807) : Prs w a xs := by
  subst hn
  obtain ⟨a', c', e1, hp⟩ := Prs.of_own h (by omega) hb
  injection e1 with e2
  rw [e2]
  exact hp
def PlyP (L : List (Int × Int)) (w : World) (e : Ending) (w' : World) : Prop := Below w.heap.size w w' ∧ ∃ (a : Option Addr) (c : Nat), e = .returned (.slice a L.length c) ∧ Prs w' a L
structure EvS (a0 a4 : Addr) (x y : Int) (w : World) : Prop where
  h0 : w.cell? a0 = some (.int .i64 x)
  h4 : w.cell? a4 = some (.int .i64 y)
set_option maxRecDepth 100000 in
set_option maxHeartbeats 6000000 in
/-- The reference's plays. -/
theorem PlaysOf_any (ar ap : Option Addr) (cr cp : Nat) (rs ps : List (Int × Int)) (p0 way step : Int) (w : World) (hR : Prs w ar rs) (hP : Prs w ap ps) (T : Tr) (hT : IsTr T rs ps p0 way step) (P0 : List (Int × Int)) (hP0 : P0 = (runM T maxI).plays) (hb : ∀ q ∈ P0, -9223372036854775808 ≤ q.1 ∧ q.1 ≤ 9223372036854775807 ∧ -9223372036854775808 ≤ q.2 ∧ q.2 ≤ 9223372036854775807) :
    Calls Try.prog 65 #[.agg #[.slice ar rs.length cr, .int .i64 p0, .int .i64 way, .int .i64 step, .slice ap ps.length cp]] w (PlyP P0 w) := by
  obtain ⟨i0, hq0, iz0, iz1, iz2⟩ := info_parts info39
  obtain ⟨E, hE⟩ : ∃ E, E = refRun T 2700 (startC T) := ⟨_, rfl⟩
  have hPE : P0 = playsE E := by rw [hP0, hE]; exact (ref_start hT.hv (Nat.le_refl _)).1
  obtain ⟨W, hW, hbw, hs, x1⟩ := boxes1 w #[.slice ar rs.length cr, .int .i64 p0, .int .i64 way, .int .i64 step, .slice ap ps.length cp] 25
  have hrun := Run_any ar ap cr cp rs ps p0 way step W (hR.below hbw (Nat.le_refl _)) (hP.below hbw (Nat.le_refl _)) T hT E hE
  unfold RunP at hrun
  obtain ⟨n, hn⟩ : ∃ n, n = E.length := ⟨_, rfl⟩
  rw [← hn] at hrun
  have HN := hid hn; have HPE := hid hPE; have HB := hid hb
  have c0 := x1.cell 0 rfl; have c1 := x1.cell 1 rfl; have c2 := x1.cell 2 rfl; have c3 := x1.cell 3 rfl; have c4 := x1.cell 4 rfl
  clear hn hPE hE hP0 hb hs
  go_enter Try.func65, Try.ntmps65
  go_wp2_with fail
  refine hrun.mono ?_
  rintro e V1 ⟨hb1, a, ca, rfl, hEv, _⟩
  replace hbw := hbw.trans (hb1.mono hbw.size)
  have hn5 : n ≤ 100000 := by rw [HN.out]; exact hEv.1
  have hnI : (n : Int) ≤ 100000 := by omega
  clear hrun c0 c1 c2 c3 c4 x1 hW hb1
  go_wp2
  go_loopw [3, 5] (fun v3 v5 wr => ∃ (i : Nat) (a3 : Option Addr) (c3 n3 : Nat), i ≤ n ∧ v3 = .slice a3 n3 c3 ∧ v5 = .int .i64 (i : Int) ∧ n3 ≤ i ∧ Below V1.heap.size V1 wr ∧
    Hid ((playsE (E.take i)).length = n3 ∧ wr.ownsRow V1.heap.size 39 2 (.slice a3 n3 c3) n3 (pcells (playsE (E.take i))))) (fun _ v5 _ => n - (intOf v5).toNat)
  case atStart => exact ⟨0, none, 0, 0, Nat.zero_le _, rfl, rfl, Nat.le_refl _, Below.refl _ _, rfl, World.ownsRow_nil _ _ _ _⟩
  case round =>
    obtain ⟨i, a3, c3, n3, hi, rfl, rfl, hn3, hb1, HL⟩ := hrel
    by_cases hlt : i < n
    · have hiI : (i : Int) < (n : Int) := by omega
      have hi0 : (0 : Int) ≤ (i : Int) := by omega
      obtain ⟨x, hx⟩ := ev_at (E := E) (i := i) (by rw [← HN.out]; exact hlt)
      obtain ⟨b, off, rfl, hbV, k0, _, _, _, k4⟩ := hEv.2 i x hx
      replace k0 : wr.cell? ⟨b, off + i * 5, none⟩ = _ := (hb1.cell (p := ⟨b, off + i * 5, none⟩) hbV).trans k0
      replace k4 : wr.cell? ⟨b, off + i * 5 + 4, none⟩ = _ := (hb1.cell (p := ⟨b, off + i * 5 + 4, none⟩) hbV).trans k4
      have htk := take_snocI hx
      by_cases hsd : 0 ≤ x.side
      · have HT2 := hid (show playsE (E.take (i + 1)) = playsE (E.take i) ++ [(x.side, x.fr)] by rw [htk, playsE_snoc, if_pos hsd])
        clear hx htk
        go_upto_region 7 with fail
        have hbd := (Below.refl wr.heap.size wr).drew
        have own3 := own_below2 HL.out.2 hbd
        have S0 : EvS ⟨b, off + i * 5, none⟩ ⟨b, off + i * 5 + 4, none⟩ x.fr x.side wr.drew := ⟨Below.keep hbd k0, Below.keep hbd k4⟩
        replace hb1 := hb1.trans (hbd.mono hb1.size)
        clear k0 k4 hbd
        refine wp_region_head 14 (EvS ⟨b, off + i * 5, none⟩ ⟨b, off + i * 5 + 4, none⟩ x.fr x.side) (by kernel_rfl) rfl ?_
        generalize wr.drew = Y0 at *
        refine HeadAt.take (i := 0) (.slice a3 n3 c3) rfl (by kernel_rfl) (.inl ⟨rfl, fun _ _ => by simp [go_sem]⟩) S0 ?_
        refine HeadAt.take (i := 1) (.slice (some ⟨b, off, none⟩) n ca) rfl (by kernel_rfl) (.inl ⟨rfl, fun _ _ => by simp [go_sem]⟩) S0 ?_
        refine HeadAt.take (i := 2) (.int .i64 (i : Int)) rfl (by kernel_rfl) (.inl ⟨rfl, fun _ _ => by simp [go_sem]⟩) S0 ?_
        refine HeadAt.take (i := 3) (.pointer (some ⟨b, off + i * 5, none⟩)) rfl (by kernel_rfl) (.inl ⟨rfl, fun w' z => ?_⟩) S0 ?_
        · (simp [go_sem, hiI, hi0])
        simp only [Act.put, List.getElem_toArray, List.getElem_cons_succ, List.getElem_cons_zero, List.setIfInBounds_toArray, List.set_cons_succ, List.set_cons_zero]
        refine HeadAt.take (i := 4) (.pointer (some ⟨b, off + i * 5 + 4, none⟩)) rfl (by kernel_rfl) (.inl ⟨rfl, fun _ _ => by simp [go_sem]⟩) S0 ?_
        refine HeadAt.take (i := 5) (.int .i64 x.side) rfl (by kernel_rfl) (.inl ⟨rfl, fun w' z => ?_⟩) S0 ?_
        · (simp [go_sem, z.h4])
        refine HeadAt.take (i := 6) (.slice (some ⟨b, off, none⟩) n ca) rfl (by kernel_rfl) (.inl ⟨rfl, fun _ _ => by simp [go_sem]⟩) S0 ?_
        refine HeadAt.take (i := 7) (.int .i64 (i : Int)) rfl (by kernel_rfl) (.inl ⟨rfl, fun _ _ => by simp [go_sem]⟩) S0 ?_
        simp only [Act.put, List.getElem_toArray, List.getElem_cons_succ, List.getElem_cons_zero, List.setIfInBounds_toArray, List.set_cons_succ, List.set_cons_zero]
        refine HeadAt.take (i := 8) (.pointer (some ⟨b, off + i * 5, none⟩)) rfl (by kernel_rfl) (.inl ⟨rfl, fun w' z => ?_⟩) S0 ?_
        · (simp [go_sem, hiI, hi0])
        refine HeadAt.take (i := 9) (.pointer (some ⟨b, off + i * 5, none⟩)) rfl (by kernel_rfl) (.inl ⟨rfl, fun _ _ => by simp [go_sem]⟩) S0 ?_
        refine HeadAt.take (i := 10) (.int .i64 x.fr) rfl (by kernel_rfl) (.inl ⟨rfl, fun w' z => ?_⟩) S0 ?_
        · (simp [go_sem, z.h0])
        refine HeadAt.take (i := 11) (.agg #[.int .i64 x.side, .int .i64 x.fr]) rfl (by kernel_rfl) (.inl ⟨rfl, fun _ _ => by simp [go_sem]⟩) S0 ?_
        have hb4 := below_one (w := Y0) (.cells #[.int .i64 x.side, .int .i64 x.fr] 39)
        have own4 := own_below2 own3 hb4
        have hcl := Cls.of_bx (Bx.new Y0 #[.int .i64 x.side, .int .i64 x.fr] 39)
        have S1 : EvS ⟨b, off + i * 5, none⟩ ⟨b, off + i * 5 + 4, none⟩ x.fr x.side (Y0.alloc (.cells #[.int .i64 x.side, .int .i64 x.fr] 39)) := ⟨Below.keep hb4 S0.h0, Below.keep hb4 S0.h4⟩
        have hb5 := hb1.trans (hb4.mono hb1.size)
        have hbs := hb5.size
        refine HeadAt.one (i := 12) rfl (by kernel_rfl) ?_
        generalize hK : Upto _ _ = K0
        (try simp only [Act.put, List.getElem_toArray, List.getElem_cons_succ, List.getElem_cons_zero, List.setIfInBounds_toArray, List.set_cons_succ, List.set_cons_zero])
        go_wp2_with fail
        subst hK
        refine ⟨S1, ?_⟩
        refine HeadAt.one (i := 13) rfl (by kernel_rfl) ?_
        generalize hK : Upto _ _ = K0
        (try simp only [List.getElem_toArray, List.getElem_cons_succ, List.getElem_cons_zero])
        go_wp2_with (at_builtin; refine wpList_appAt rfl (.tmp 20) (.tmp 32) 28 rfl V1.heap.size 39 i0 (.agg #[.int .i64 0, .int .i64 0]) 2 16 under28 hq0 iz0 iz1 iz2 rfl (by decide) (.slice a3 n3 c3) n3 _ rfl own4 (some ⟨Y0.heap.size, 0, none⟩) 1 1 [.int .i64 x.side, .int .i64 x.fr] rfl rfl hcl (by simp; exact ⟨rfl, rfl⟩) (by unfold maxLen; omega) (by omega) hbs ?_; intro v5 W5 hown5 hg5 hat)
        obtain ⟨a5, c5, rfl⟩ := own_slice2 hown5
        have S2 : EvS ⟨b, off + i * 5, none⟩ ⟨b, off + i * 5 + 4, none⟩ x.fr x.side W5 := by
          have hne : ∀ k, (Value.slice a3 n3 c3).ownBlock = some k → b ≠ k := fun k hk e => by have := own_ge2 own4 k hk; omega
          have hk : ∀ o, W5.cell? ⟨b, o, none⟩ = (Y0.alloc (.cells #[.int .i64 x.side, .int .i64 x.fr] 39)).cell? ⟨b, o, none⟩ := fun o =>
            World.cell?_of_block (hg5.block b (by have := hb5.size; omega) (fun e => hne b e.symm rfl))
          exact ⟨by rw [hk]; exact S1.h0, by rw [hk]; exact S1.h4⟩
        have hb6 : Below V1.heap.size V1 W5 := hb5.grown hg5 hbs (own_ge2 own4)
        have HF := hid (show (playsE (E.take (i + 1))).length = n3 + 1 ∧ W5.ownsRow V1.heap.size 39 2 (.slice a5 (n3 + 1) c5) (n3 + 1) (pcells (playsE (E.take (i + 1)))) from
          ⟨by rw [HT2.out, List.length_append, HL.out.1]; rfl, by rw [HT2.out, pcells_app]; exact hown5⟩)
        subst hK
        refine ⟨S2, ?_⟩
        clear hown5 hg5 hat own4 own3 hcl hb4 hb5 hb1 S0 S1 hbs
        refine HeadAt.done (by kernel_rfl) ?_
        (try simp only [List.drop_succ_cons, List.drop_zero])
        clear S2
        go_wp2_with fail
        refine NoPanic.normal ?_
        go_wp2
        go_roundw
        case rel => exact ⟨i + 1, a5, c5, n3 + 1, by omega, rfl, by go_num, by omega, hb6, HF.out⟩
        case measure => simp [intOf]; omega
      · have HF := hid (show (playsE (E.take (i + 1))).length = n3 ∧ wr.ownsRow V1.heap.size 39 2 (.slice a3 n3 c3) n3 (pcells (playsE (E.take (i + 1)))) by rw [htk, playsE_snoc, if_neg hsd]; exact HL.out)
        have hsn : x.side < 0 := by omega
        clear hx htk HL hsd
        go_wp2
        go_roundw
        case rel => exact ⟨i + 1, a3, c3, n3, by omega, rfl, by go_num, by omega, hb1, HF.out⟩
        case measure => simp [intOf]; omega
    · have hiI : (n : Int) ≤ (i : Int) := by omega
      have hfin : (playsE E).length = n3 ∧ wr.ownsRow V1.heap.size 39 2 (.slice a3 n3 c3) n3 (pcells (playsE E)) := by
        have h := HL.out
        rw [List.take_of_length_le (by rw [← HN.out]; omega)] at h
        exact h
      rw [← HPE.out] at hfin
      have HF := hid hfin
      clear hfin HL
      go_wp2
      go_ret
      obtain ⟨h1, h2⟩ := HF.out
      have h3 := own_prsA8 h2 h1 (by omega) HB.out
      refine ⟨hbw.trans (hb1.mono hbw.size), a3, c3, by rw [h1]; rfl, h3⟩
end Go.Proofs.Ytknaljghpfeikaa
