import Derived.Test.YtmkmnedojgigoaaY0
import Derived.Test.YtmkmnedojgigoaaX4
namespace Go.Proofs.Ytmkmnedojgigoaa
open Go.RowKit

theorem Prs.gro {w w' : World} {r : Option Nat} {a : Option Addr} {xs : List (Int × Int)} (h : Prs w a xs) (hg : w.grownBy w' r) (hne : xs ≠ [] → ∀ ad, a = some ad → r ≠ some ad.block) : Prs w' a xs := by
  refine ⟨h.1, h.2.1, fun i hi => ?_⟩
  obtain ⟨b, off, ha, hb, hc, hd⟩ := h.2.2 i hi
  have hn : xs ≠ [] := fun e => by rw [e] at hi; simp at hi
  have hk := hg.block b hb (fun e => hne hn _ ha (by first | exact e | exact e.symm))
  refine ⟨b, off, ha, Nat.lt_of_lt_of_le hb hg.size, ?_, ?_⟩
  · rw [← hc]; unfold World.cell?; simp only [hk]
  · rw [← hd]; unfold World.cell?; simp only [hk]
/-- A value that reads as pairs, whose memory is not that of two rows. -/
def Px (w : World) (o1 o2 : Option Nat) (x : Value) (L : List (Int × Int)) : Prop :=
  ∃ (a : Option Addr) (c : Nat), x = .slice a L.length c ∧ Prs w a L ∧ (L ≠ [] → ∀ ad, a = some ad → ad.block < w.heap.size ∧ o1 ≠ some ad.block ∧ o2 ≠ some ad.block)
theorem Px.gro {w w' : World} {o1 o2 o1' o2' r : Option Nat} {x : Value} {L : List (Int × Int)} (h : Px w o1 o2 x L) (hg : w.grownBy w' r) (hr : ∀ k, r = some k → o1 = some k ∨ o2 = some k)
    (h1 : o1' = o1 ∨ ∃ k, o1' = some k ∧ w.heap.size ≤ k) (h2 : o2' = o2 ∨ ∃ k, o2' = some k ∧ w.heap.size ≤ k) : Px w' o1' o2' x L := by
  obtain ⟨a, c, e1, hp, hd⟩ := h
  refine ⟨a, c, e1, hp.gro hg (fun hn ad e hh => ?_), fun hn ad e => ?_⟩
  · obtain ⟨_, d1, d2⟩ := hd hn ad e
    rcases hr _ hh with h | h
    · exact d1 h
    · exact d2 h
  · obtain ⟨d0, d1, d2⟩ := hd hn ad e
    refine ⟨Nat.lt_of_lt_of_le d0 hg.size, fun e2 => ?_, fun e2 => ?_⟩
    · rcases h1 with rfl | ⟨k, rfl, hk⟩
      · exact d1 e2
      · cases e2; omega
    · rcases h2 with rfl | ⟨k, rfl, hk⟩
      · exact d2 e2
      · cases e2; omega
/-- The row of what was seen from the first places. -/
def SeenR (w : World) (o1 o2 : Option Nat) (R : Nat) (N C ks : List Int) (n : Nat) (xs : List Value) : Prop := ∀ p, p < n → ∃ x, xs[p]? = some x ∧ Px w o1 o2 x (whatS R N C p ks)
def aftR (R : Nat) (C ks : List Int) (n : Nat) : List Value := (List.range n).map fun p => .int .i64 ((p + tot C ks) % R : Nat)
theorem aftR_next (R : Nat) (C ks : List Int) (n : Nat) : aftR R C ks (n + 1) = aftR R C ks n ++ [.int .i64 ((n + tot C ks) % R : Nat)] := by simp [aftR, List.range_succ]
theorem aftR_at {R : Nat} {C ks : List Int} {n i : Nat} (h : i < n) : (aftR R C ks n)[i]? = some (.int .i64 ((i + tot C ks) % R : Nat)) := by simp [aftR, h]
theorem aftR_len (R : Nat) (C ks : List Int) (n : Nat) : (aftR R C ks n).length = n := by simp [aftR]
theorem turn_inj {R t i p : Nat} (hi : i < p) (hp : p < R) : (i + t) % R ≠ (p + t) % R := fun e => by
  have h1 := Nat.div_add_mod (i + t) R
  have h2 := Nat.div_add_mod (p + t) R
  rw [← e] at h2
  have h3 : R * ((p + t) / R) = R * ((i + t) / R) + (p - i) := by omega
  have h4 : (p - i) % R = 0 := by
    have : (R * ((i + t) / R) + (p - i)) % R = 0 := by rw [← h3]; exact Nat.mul_mod_right _ _
    rwa [Nat.mul_add_mod] at this
  rw [Nat.mod_eq_of_lt (by omega)] at h4
  omega
theorem what_eq {R : Nat} {N C : List Int} : ∀ (ks : List Int) (p q : Nat), (∀ i, ((whatS R N C p ks).getD i (0, 0)).2.toNat = ((whatS R N C q ks).getD i (0, 0)).2.toNat) → whatS R N C p ks = whatS R N C q ks
  | [], _, _, _ => rfl
  | k :: ks, p, q, h => by
    have h0 := h 0
    simp only [whatS, List.getD_cons_zero, Int.toNat_natCast] at h0
    have ht := what_eq ks ((p + cw C k.toNat) % R) ((q + cw C k.toNat) % R) (fun i => by have := h (i + 1); simpa [whatS] using this)
    simp only [whatS, h0, ht]
theorem pl_what {R : Nat} {N C ks : List Int} (hl : ks.length ≤ 4) {p q : Nat} : plB R N C ks p = plB R N C ks q ↔ whatS R N C p ks = whatS R N C q ks := by
  refine ⟨fun h => what_eq ks p q fun i => ?_, fun h => by unfold plB; rw [h]⟩
  unfold plB kB at h
  simp only [Bg.mk.injEq] at h
  obtain ⟨h0, h1, h2, h3⟩ := h
  match i with
  | 0 => exact h0
  | 1 => exact h1
  | 2 => exact h2
  | 3 => exact h3
  | i + 4 =>
    have e : ∀ p, (whatS R N C p ks).getD (i + 4) (0, 0) = (0, 0) := fun p => by
      have := whatS_len R N C ks p
      simp [List.getD, List.getElem?_eq_none (show (whatS R N C p ks).length ≤ i + 4 by omega)]
    rw [e p, e q]
theorem under114 : Try.prog.underlying 114 = some (.slice 47) := by kernel_rfl
theorem info47 : (Try.prog.info? 47).map (fun i => (i.zero, i.size, i.bytes)) = some (some (.slice none 0 0), 1, 24) := by kernel_rfl

set_option maxRecDepth 100000 in
set_option maxHeartbeats 4000000 in
theorem tellsR_any (R : Nat) (an ac : Option Addr) (cn cc : Nat) (N C : List Int) (a : Option Addr) (ca : Nat) (ks : List Int) (w : World) (hN : Ints w an N) (hC : Ints w ac C) (hX : Ints w a ks) (hv : Vw R N C) (hl : ks.length ≤ 4) (hall : ks.all (isKindB C) = true) (b : Bool) (hbt : b = true ↔ TellsB R N C ks) :
    Calls Try.prog 46 #[.agg #[.int .i64 (R : Int), .slice an N.length cn, .slice ac C.length cc], .slice a ks.length ca] w fun e w' => e = .returned (.bool b) ∧ Below w.heap.size w w' := by
  obtain ⟨j0, hj, jz0, jz1, jz2⟩ := info_parts info3
  obtain ⟨i0, hi0, iz0, iz1, iz2⟩ := info_parts info47
  have r1 := hv.r1
  have r2 := hv.r2
  have HBT := hid hbt; clear hbt
  have hN0 := hN; have hC0 := hC; have hX0 := hX
  clear hN hC hX
  obtain ⟨W, hW, hb, hs, x0⟩ := boxes1 w #[.int .i64 (R : Int), .slice an N.length cn, .slice ac C.length cc] 24
  clear hs
  have c0 := x0.cell 0 rfl; have c1 := x0.cell 1 rfl; have c2 := x0.cell 2 rfl
  go_enter Try.func46, Try.ntmps46
  go_wp2
  clear hW c0 c1 c2
  go_loopw [5, 6, 7] (fun v5 v6 v7 wr => ∃ (p : Nat) (a5 a6 : Option Addr) (c5 c6 : Nat) (xs : List Value), p ≤ R ∧ v7 = .int .i64 (p : Int) ∧ v5 = .slice a5 p c5 ∧ v6 = .slice a6 p c6 ∧ wr.ownsRow (w.heap.size + 1) 47 1 (.slice a5 p c5) p xs ∧ wr.ownsRow (w.heap.size + 1) 3 1 (.slice a6 p c6) p (aftR R C ks p) ∧
    (∀ k, (Value.slice a5 p c5).ownBlock = some k → (Value.slice a6 p c6).ownBlock ≠ some k) ∧ SeenR wr (Value.slice a5 p c5).ownBlock (Value.slice a6 p c6).ownBlock R N C ks p xs ∧ Below w.heap.size w wr ∧ Bx wr w.heap.size #[.int .i64 (R : Int), .slice an N.length cn, .slice ac C.length cc] 24 ∧ ∀ i q, i < q → q < p → whatS R N C i ks ≠ whatS R N C q ks) (fun _ _ v7 _ => R - (intOf v7).toNat)
  case atStart => exact ⟨0, none, none, 0, 0, [], Nat.zero_le _, rfl, rfl, rfl, World.ownsRow_nil _ _ _ _, World.ownsRow_nil _ _ _ _, fun k hk => by simp [Value.ownBlock] at hk, fun p hp => by omega, hb, x0, fun i q _ hq => by omega⟩
  case round =>
    clear hb x0
    obtain ⟨p, a5, a6, c5, c6, xs, hp, rfl, rfl, rfl, hown5, hown6, hdj, hsr, hb, x0, hdi⟩ := hrel
    obtain ⟨wo, rfl⟩ : ∃ wo : World, wo = wr := ⟨_, rfl⟩
    have Hdj := hid hdj; have Hsr := hid hsr; have Hdi := hid hdi
    clear hdj hsr hdi
    have c0 := x0.cell 0 rfl; have c1 := x0.cell 1 rfl; have c2 := x0.cell 2 rfl
    by_cases hlt : p < R
    · have hltI : (p : Int) < (R : Int) := by omega
      go_wp2_with fail
      refine (what_any R an ac cn cc N C p a ca ks wo (hN0.below hb (Nat.le_refl _)) (hC0.below hb (Nat.le_refl _)) (hX0.below hb (Nat.le_refl _)) hv hlt hall (by omega)).mono ?_
      rintro e W1 ⟨hb1, a8, c8, rfl, hP, hcap, hnew⟩
      obtain ⟨n8, hn8⟩ : ∃ t, t = (whatS R N C p ks).length := ⟨_, rfl⟩
      obtain ⟨T, hT⟩ : ∃ t, t = (p + tot C ks) % R := ⟨_, rfl⟩
      have hTb : T ≤ 1000000 := by have := Nat.mod_lt (p + tot C ks) (show R > 0 by omega); omega
      have hn8b : n8 ≤ 4 := by rw [hn8, whatS_len]; exact hl
      rw [← hn8] at hcap ⊢
      rw [← hT]
      have HN8 := hid hn8; have HTT := hid hT; have Hnew := hid hnew; have HP := hid hP
      clear hn8 hT hnew hP hcap c0 c1 c2
      have hown5a := own_below2 hown5 hb1
      have hown6a := own_below2 hown6 hb1
      have hbW := hb.trans (hb1.mono hb.size)
      have x0W := x0.below hb1
      go_wp2
      go_loopw [10] (fun v10 wk => ∃ i : Nat, i ≤ p ∧ v10 = .int .i64 (i : Int) ∧ Below W1.heap.size W1 wk ∧ ∀ q, q < i → whatS R N C q ks ≠ whatS R N C p ks) (fun v10 _ => p - (intOf v10).toNat)
      case atStart => exact ⟨0, Nat.zero_le _, rfl, Below.refl _ _, fun q hq => by omega⟩
      case round =>
        obtain ⟨i, hi, rfl, hbk, hdf⟩ := hrel
        obtain ⟨wk, rfl⟩ : ∃ wk : World, wk = wr := ⟨_, rfl⟩
        have Hdf := hid hdf; clear hdf
        by_cases hip : i < p
        · have hipI : (i : Int) < (p : Int) := by omega
          have hi0' : (0 : Int) ≤ (i : Int) := by omega
          obtain ⟨g6, cap6, e6⟩ := Go.Joins.ownsRow_form hown6a (by omega)
          simp only [Value.slice.injEq] at e6
          obtain ⟨rfl, -, rfl⟩ := e6
          obtain ⟨g5, cap5, e5⟩ := Go.Joins.ownsRow_form hown5a (by omega)
          simp only [Value.slice.injEq] at e5
          obtain ⟨rfl, -, rfl⟩ := e5
          have h6 := hown6a.cellAt i (by omega)
          rw [aftR_at hip] at h6
          have h6k := Below.keep hbk h6
          obtain ⟨x, hx, a9, c9, rfl, hP9, -⟩ := Hsr.out i hip
          have h5 := hown5a.cellAt i (by omega)
          rw [hx] at h5
          have h5k := Below.keep hbk h5
          have hlt5 := Nat.lt_of_lt_of_le (hown5a.lt g5 rfl).2 hbk.size
          have hlt6 := Nat.lt_of_lt_of_le (hown6a.lt g6 rfl).2 hbk.size
          have hP9k := hP9.below (hb1.trans (hbk.mono hb1.size)) (Nat.le_refl _)
          have hP8k := HP.out.below hbk (Nat.le_refl _)
          have hle : (whatS R N C p ks).length = (whatS R N C i ks).length := by rw [whatS_len, whatS_len]
          have hss := sameSeen_any a9 a8 c9 c8 (whatS R N C i ks) (whatS R N C p ks) wk hP9k hP8k hle (by rw [whatS_len]; omega)
          rw [hle] at hss
          have e8 : (whatS R N C i ks).length = n8 := by rw [HN8.out, hle]
          rw [e8] at hss h5k
          have hti := turn_inj (t := tot C ks) hip hlt
          obtain ⟨T2, hT2⟩ : ∃ t, t = (i + tot C ks) % R := ⟨_, rfl⟩
          rw [← hT2] at hti h6k
          rw [← HTT.out] at hti
          have hTB : ((T2 : Int) != (T : Int)) = true := by simp; omega
          clear hti hT2 h6 h5 hx hle e8 hP9 hP9k hP8k
          by_cases hsm : whatS R N C i ks = whatS R N C p ks
          · rw [decide_eq_true hsm] at hss
            have hbf : b = false := by
              cases hb2 : b
              · rfl
              · have := (HBT.out.1 hb2) i p (by omega) hlt ((pl_what hl).2 hsm); omega
            have HBF := hid hbf
            clear hbf hsm
            go_wp2_with fail
            refine hss.mono ?_
            rintro e W3 ⟨rfl, hb3⟩
            have hbf := (hbW.trans (hbk.mono hbW.size)).trans (hb3.mono (hbW.trans (hbk.mono hbW.size)).size)
            clear hss
            go_wp2
            go_ret
            exact ⟨ret_bool (by rw [HBF.out]), hbf⟩
          · rw [decide_eq_false hsm] at hss
            have Hsm := hid hsm
            clear hsm
            go_wp2_with fail
            refine hss.mono ?_
            rintro e W3 ⟨rfl, hb3⟩
            have hbk3 := hbk.trans (hb3.mono hbk.size)
            clear hss h5k h6k
            go_wp2
            go_roundw
            case rel => exact ⟨i + 1, by omega, by go_num, hbk3, fun q hq => by
              rcases Nat.lt_or_ge q i with h | h
              · exact Hdf.out q h
              · obtain rfl : q = i := by omega
                exact Hsm.out⟩
            case measure => simp [intOf]; omega
        · have hipI : (p : Int) ≤ (i : Int) := by omega
          have hdi2 : ∀ i q, i < q → q < p + 1 → whatS R N C i ks ≠ whatS R N C q ks := fun i' q h1 h2 => by
            rcases Nat.lt_or_ge q p with h | h
            · exact Hdi.out i' q h1 h
            · obtain rfl : q = p := by omega
              exact Hdf.out i' (by omega)
          have Hdi2 := hid hdi2; clear hdi2
          have hown5k := own_below2 hown5a hbk
          have hown6k := own_below2 hown6a hbk
          have hbK := hbW.trans (hbk.mono hbW.size)
          have x0K := x0W.below hbk
          have hs1 := hb1.size; have hsk := hbk.size
          have hszK := hbK.size
          have hx8 : Px wk (Value.slice a5 p c5).ownBlock (Value.slice a6 p c6).ownBlock (.slice a8 n8 c8) (whatS R N C p ks) := by
            refine ⟨a8, c8, by rw [HN8.out], HP.out.below hbk (Nat.le_refl _), fun hne ad e => ?_⟩
            obtain ⟨b', off', e3, hb', _⟩ := HP.out.2.2 0 (by
              rcases Nat.eq_zero_or_pos (whatS R N C p ks).length with h | h
              · exact absurd (List.length_eq_zero_iff.1 h) hne
              · exact h)
            have hge := Hnew.out ad e
            rw [e] at e3
            cases e3
            refine ⟨Nat.lt_of_lt_of_le hb' hsk, fun e2 => ?_, fun e2 => ?_⟩
            · have := (hown5.lt _ e2).2; dsimp only at hge this; omega
            · have := (hown6.lt _ e2).2; dsimp only at hge this; omega
          have hsrk : SeenR wk (Value.slice a5 p c5).ownBlock (Value.slice a6 p c6).ownBlock R N C ks p xs := fun q hq => by
            obtain ⟨x, hx, hpx⟩ := Hsr.out q hq
            exact ⟨x, hx, hpx.gro (Below.gr' (hb1.trans (hbk.mono hs1))) (fun k hk => by cases hk) (.inl rfl) (.inl rfl)⟩
          have HSRK := hid hsrk; have HX8 := hid hx8
          clear hsrk hx8 hown5 hown6 hown5a hown6a hbk hb hbW x0 x0W hb1 hs1 hsk
          have hown5S := hown5k.alloc (.cells #[.slice a8 n8 c8] 47)
          have hcls := Cls.of_bx (Bx.new wk #[.slice a8 n8 c8] 47)
          go_wp2_with (first
            | (at_builtin; refine wpList_appAt rfl (.tmp 43) (.tmp 45) 114 rfl (w.heap.size + 1) 47 i0 (.slice none 0 0) 1 24 under114 hi0 iz0 iz1 iz2 rfl (by decide) (.slice a5 p c5) p xs rfl hown5S (some ⟨wk.heap.size, 0, none⟩) 1 1 [.slice a8 n8 c8] rfl rfl hcls (by simp; rfl) (by unfold maxLen; omega) (by omega) (by simp; have := x0K.lt; omega) ?_
               intro v3 W3 hown3 hg3 hat3
               have hgk3 := (World.grownBy_alloc wk (.cells #[.slice a8 n8 c8] 47) (Value.slice a5 p c5).ownBlock).trans hg3
               have hown6b := hown6k.kept hgk3 (by
                 cases he : (Value.slice a6 p c6).ownBlock
                 · exact .inl rfl
                 · exact .inr (fun e => Hdj.out _ e.symm he))
               have hown6S := hown6b.alloc (.cells #[.int .i64 (T : Int)] 3)
               have hcls2 := Cls.of_bx (Bx.new W3 #[.int .i64 (T : Int)] 3)
               have hs3 := hgk3.size)
            | (at_builtin; refine wpList_appAt rfl (.tmp 47) (.tmp 49) 22 rfl (w.heap.size + 1) 3 j0 (.int .i64 0) 1 8 under22 hj jz0 jz1 jz2 rfl (by decide) (.slice a6 p c6) p (aftR R C ks p) rfl hown6S (some ⟨W3.heap.size, 0, none⟩) 1 1 [.int .i64 (T : Int)] rfl rfl hcls2 (by simp; rfl) (by unfold maxLen; omega) (by omega) (by simp; have := x0K.lt; omega) ?_
               intro v4 W5 hown4 hg4 hat4))
          have hgk4 := (World.grownBy_alloc W3 (.cells #[.int .i64 (T : Int)] 3) (Value.slice a6 p c6).ownBlock).trans hg4
          obtain ⟨a5', c5', rfl⟩ := own_slice2 hown3
          obtain ⟨a6', c6', rfl⟩ := own_slice2 hown4
          have hat3' : (Value.slice a5' (p + 1) c5').ownBlock = (Value.slice a5 p c5).ownBlock ∨ ∃ k, (Value.slice a5' (p + 1) c5').ownBlock = some k ∧ wk.heap.size ≤ k := by
            rcases hat3 with h | h
            · exact .inl h
            · exact .inr ⟨_, h, by simp⟩
          have hat4' : (Value.slice a6' (p + 1) c6').ownBlock = (Value.slice a6 p c6).ownBlock ∨ ∃ k, (Value.slice a6' (p + 1) c6').ownBlock = some k ∧ W3.heap.size ≤ k := by
            rcases hat4 with h | h
            · exact .inl h
            · exact .inr ⟨_, h, by simp⟩
          have hne36 : ∀ k, (Value.slice a5' (p + 1) c5').ownBlock = some k → (Value.slice a6 p c6).ownBlock ≠ some k := fun k h3 h6 => by
            have hl6 := (hown6k.lt k h6).2
            rcases hat3' with h | ⟨k2, h, hk2⟩
            · exact Hdj.out k (by rw [← h]; exact h3) h6
            · rw [h3] at h; cases h; omega
          have hdj' : ∀ k, (Value.slice a5' (p + 1) c5').ownBlock = some k → (Value.slice a6' (p + 1) c6').ownBlock ≠ some k := fun k h3 h4 => by
            rcases hat4' with h | ⟨k2, h, hk2⟩
            · exact hne36 k h3 (by rw [← h]; exact h4)
            · rw [h4] at h; cases h
              have := (hown3.lt k h3).2; omega
          have hown3' := hown3.kept hgk4 (by
            cases he : (Value.slice a5' (p + 1) c5').ownBlock
            · exact .inl rfl
            · exact .inr (fun e => hne36 _ he e.symm))
          have hxl : xs.length = p := by have := hown5k.1; omega
          have hstep : ∀ x L, Px wk (Value.slice a5 p c5).ownBlock (Value.slice a6 p c6).ownBlock x L → Px W5 (Value.slice a5' (p + 1) c5').ownBlock (Value.slice a6' (p + 1) c6').ownBlock x L := fun x L h =>
            (h.gro hgk3 (fun k hk => .inl hk) hat3' (.inl rfl)).gro hgk4 (fun k hk => .inr hk) (.inl rfl) hat4'
          have hsr' : SeenR W5 (Value.slice a5' (p + 1) c5').ownBlock (Value.slice a6' (p + 1) c6').ownBlock R N C ks (p + 1) (xs ++ [.slice a8 n8 c8]) := fun q hq => by
            rcases Nat.lt_or_ge q p with h | h
            · obtain ⟨x, hx, hpx⟩ := HSRK.out q h
              exact ⟨x, by rw [List.getElem?_append_left (by omega)]; exact hx, hstep _ _ hpx⟩
            · obtain rfl : q = p := by omega
              exact ⟨_, by rw [List.getElem?_append_right (by omega), hxl]; simp, hstep _ _ HX8.out⟩
          have hb3 : Below w.heap.size w W3 := hbK.grown hgk3 hszK (fun k hk => by have := own_ge2 hown5k k hk; omega)
          have hb5 : Below w.heap.size w W5 := hb3.grown hgk4 hb3.size (fun k hk => by have := own_ge2 hown6k k hk; omega)
          have x05 := (x0K.gb hgk3 (fun k hk => by have := own_ge2 hown5k k hk; omega)).gb hgk4 (fun k hk => by have := own_ge2 hown6k k hk; omega)
          rw [HTT.out, ← aftR_next] at hown4
          clear hgk3 hgk4 hg3 hg4 hat3 hat4 hat3' hat4' hown3 hown5k hown6k hown5S hown6S hown6b hcls hcls2 hstep hne36 hb3 hbK x0K
          refine ⟨⟨p + 1, a5', a6', c5', c6', xs ++ [.slice a8 n8 c8], by omega, by go_num, rfl, rfl, hown3', hown4, hdj', hsr', hb5, x05, Hdi2.out⟩, ?_⟩
          simp [intOf]; omega
    · have hltI : (R : Int) ≤ (p : Int) := by omega
      have hbt : b = true := HBT.out.2 fun i q hi hq e => by
        have h1 := (pl_what hl).1 e
        rcases Nat.lt_trichotomy i q with h | h | h
        · exact absurd h1 (Hdi.out i q h (by omega))
        · exact h
        · exact absurd h1.symm (Hdi.out q i h (by omega))
      have HB := hid hbt
      clear hbt
      go_wp2
      go_ret
      exact ⟨ret_bool (by rw [HB.out]), hb⟩
end Go.Proofs.Ytmkmnedojgigoaa
