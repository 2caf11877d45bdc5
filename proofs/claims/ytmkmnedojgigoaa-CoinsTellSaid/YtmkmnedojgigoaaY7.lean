import Derived.Test.YtmkmnedojgigoaaY5
import Derived.Test.YtmkmnedojgigoaaY6
namespace Go.Proofs.Ytmkmnedojgigoaa
open Go.RowKit

theorem bool_of (P : Prop) : ∃ t : Bool, (t = true ↔ P) := by
  rcases Classical.em P with h | h
  · exact ⟨true, by simp [h]⟩
  · exact ⟨false, by simp [h]⟩
/-- The length of the shortest lists that tell; -1: there are none. -/
def LenIs (R : Nat) (N C : List Int) (v : Int) : Prop :=
  (∃ i : Nat, i ≤ 4 ∧ v = i ∧ (∃ l ∈ levL C i, TellsB R N C l) ∧ ∀ q, q < i → NoneL R N C q) ∨ (v = -1 ∧ ∀ q, q ≤ 4 → NoneL R N C q)
def LengthP (R : Nat) (N C : List Int) (w : World) (e : Ending) (w' : World) : Prop := Below w.heap.size w w' ∧ ∃ v : Int, e = .returned (.int .i64 v) ∧ LenIs R N C v

set_option maxRecDepth 100000 in
set_option maxHeartbeats 4000000 in
theorem length_any (R : Nat) (an ac : Option Addr) (cn cc : Nat) (N C : List Int) (w : World) (hN : Ints w an N) (hC : Ints w ac C) (hv : Vw R N C) :
    Calls Try.prog 44 #[.agg #[.int .i64 (R : Int), .slice an N.length cn, .slice ac C.length cc]] w (LengthP R N C w) := by
  have c4 := hv.c4
  obtain ⟨W, hW, hb, hs, x0⟩ := boxes1 w #[.int .i64 (R : Int), .slice an N.length cn, .slice ac C.length cc] 24
  clear hs
  replace hN := hN.below hb (Nat.le_refl _); replace hC := hC.below hb (Nat.le_refl _)
  go_enter Try.func44, Try.ntmps44
  go_wp2
  clear hW
  go_loopw [3] (fun v3 wr => ∃ i : Nat, i ≤ 5 ∧ v3 = .int .i64 (i : Int) ∧ Below W.heap.size W wr ∧ ∀ q, q < i → NoneL R N C q) (fun v3 _ => 5 - (intOf v3).toNat)
  case atStart => exact ⟨0, by omega, rfl, Below.refl _ _, fun q hq => by omega⟩
  case round =>
    obtain ⟨i, hi, rfl, hbo, hno⟩ := hrel
    obtain ⟨wo, rfl⟩ : ∃ wo : World, wo = wr := ⟨_, rfl⟩
    have Hno := hid hno; clear hno
    by_cases hlt : i ≤ 4
    · have hltI : (i : Int) ≤ 4 := by omega
      have x0o := x0.below hbo
      have c0 := x0o.cell 0 rfl; have c1 := x0o.cell 1 rfl; have c2 := x0o.cell 2 rfl
      have hm2 : (levL C i).length ≤ 256 := Nat.le_trans (lev_len c4 i) (Nat.pow_le_pow_right (n := 4) (by omega) (show i ≤ 4 by omega))
      have hLn := lev_mem (C := C) i
      have hli := lists_any R an ac cn cc N C i wo hv hlt
      have hpst : ∀ e w', ListsP C i wo e w' → ∀ LL, LL = levL C i → Below wo.heap.size wo w' ∧ ∃ (A : Option Addr) (c : Nat), e = .returned (.slice A LL.length c) ∧ LR w' A LL := fun e w' h LL hL => by rw [hL]; exact h
      go_wp2_with fail
      refine hli.mono ?_
      intro e W1 hp
      obtain ⟨LL, hLLe⟩ : ∃ LL, LL = levL C i := ⟨_, rfl⟩
      obtain ⟨hb1, A, c, rfl, hL⟩ := hpst e W1 hp LL hLLe
      clear hpst hli hp
      rw [← hLLe] at hm2 hLn
      obtain ⟨m, hm⟩ : ∃ m, m = LL.length := ⟨_, rfl⟩
      rw [← hm] at hm2 ⊢
      have HmL := hid hm; have Hln := hid hLn; have HLL := hid hLLe
      clear hm hLn hLLe c0 c1 c2 x0o
      have hbW := hbo.trans (hb1.mono hbo.size)
      go_wp2
      go_loopw [5] (fun v5 wk => ∃ k : Nat, k ≤ m ∧ v5 = .int .i64 (k : Int) ∧ Below W1.heap.size W1 wk ∧ ∀ q l, q < k → LL[q]? = some l → ¬ TellsB R N C l) (fun v5 _ => m - (intOf v5).toNat)
      case atStart => exact ⟨0, Nat.zero_le _, rfl, Below.refl _ _, fun q l hq => by omega⟩
      case round =>
        obtain ⟨k, hk, rfl, hbk, hnk⟩ := hrel
        obtain ⟨wk, rfl⟩ : ∃ wk : World, wk = wr := ⟨_, rfl⟩
        have Hnk := hid hnk; clear hnk
        have hbK := hbW.trans (hbk.mono hbW.size)
        by_cases hkm : k < m
        · obtain ⟨ks, hks⟩ : ∃ ks, LL[k]? = some ks := ⟨LL[k]'(by have := HmL.out; omega), by have := HmL.out; simp⟩
          obtain ⟨hkl, hka⟩ := Hln.out ks (List.mem_of_getElem? hks)
          obtain ⟨b, off, rfl, hbs0, a, c', hcell0, hks0⟩ := hL k ks hks
          have Hks := hid hks; clear hks
          have hkmI : (k : Int) < (m : Int) := by omega
          have hk0 : (0 : Int) ≤ (k : Int) := by omega
          have x0 := x0.below hbK
          have hN := hN.below hbK (Nat.le_refl _); have hC := hC.below hbK (Nat.le_refl _)
          have hI := hks0.below hbk (Nat.le_refl _)
          have hcell := Below.keep hbk hcell0
          have hgr := Nat.lt_of_lt_of_le hbs0 hbk.size
          obtain ⟨t, ht⟩ := bool_of (TellsB R N C ks)
          have hte := fun W h1 h2 h3 => tellsR_any R an ac cn cc N C a c' ks W h1 h2 h3 hv (by omega) hka t ht
          obtain ⟨n2, hn2⟩ : ∃ t, t = ks.length := ⟨_, rfl⟩
          rw [← hn2] at hte hcell
          have Ht := hid ht
          clear ht hn2 hkl hcell0 hks0
          go_upto_region 8 with fail
          have d0 := x0.ext 0 rfl; have d1 := x0.ext 1 rfl; have d2 := x0.ext 2 rfl
          have dc := Ext.cell hcell
          refine wp_region_ext_lit (by kernel_rfl) (by kernel_rfl) ?_
          repeat (quiet_step (first | (go_at_call 46; exact quiet_ext (hte _ (hN.below (Ext.below _) (Nat.le_refl _)) (hC.below (Ext.below _) (Nat.le_refl _)) (hI.below (Ext.below _) (Nat.le_refl _))))))
          refine wpQuiet_nil ?_
          intro _ hw'
          obtain ⟨tt, rfl⟩ := hw'
          have hb3 := tt.below
          clear d0 d1 d2 dc
          generalize tt.w = V1 at *
          have hbk3 := hbk.trans (hb3.mono hbk.size)
          have hbK3 := hbK.trans (hb3.mono hbK.size)
          clear hte hcell hgr hI
          cases t
          · have hnt : ¬ TellsB R N C ks := fun h => by have := Ht.out.2 h; cases this
            have Hnt := hid hnt
            clear hnt
            go_wp2_with fail
            go_roundw
            case rel => exact ⟨k + 1, by omega, by go_num, hbk3, fun q l hq hl => by
              rcases Nat.lt_or_ge q k with h | h
              · exact Hnk.out q l h hl
              · obtain rfl : q = k := by omega
                have e : l = ks := by have := Hks.out; rw [this] at hl; exact (Option.some.inj hl).symm
                rw [e]; exact Hnt.out⟩
            case measure => simp [intOf]; omega
          · have hyes : TellsB R N C ks := Ht.out.1 rfl
            have hres : LenIs R N C (i : Int) := .inl ⟨i, hlt, rfl, ⟨ks, by rw [← HLL.out]; exact List.mem_of_getElem? Hks.out, hyes⟩, Hno.out⟩
            have HRES := hid hres
            have hfin := hb.trans (hbK3.mono hb.size)
            clear hyes hres
            go_wp2_with fail
            go_ret
            exact ⟨hfin, _, rfl, HRES.out⟩
        · have hkmI : (m : Int) ≤ (k : Int) := by omega
          have hnoi : NoneL R N C i := fun l hl => by
            rw [← HLL.out] at hl
            obtain ⟨q, hq, e⟩ := List.getElem_of_mem hl
            exact Hnk.out q l (by have := HmL.out; omega) (by rw [List.getElem?_eq_getElem hq, e])
          have Hni := hid hnoi; clear hnoi
          go_wp2
          go_roundw
          case rel => exact ⟨i + 1, by omega, by go_num, hbK, fun q hq => by
            rcases Nat.lt_or_ge q i with h | h
            · exact Hno.out q h
            · obtain rfl : q = i := by omega
              exact Hni.out⟩
          case measure => simp [intOf]; omega
    · have hltI : ¬ (i : Int) ≤ 4 := by omega
      have hres : LenIs R N C (-1) := .inr ⟨rfl, fun q hq => Hno.out q (by omega)⟩
      have HRES := hid hres
      have hfin := hb.trans (hbo.mono hb.size)
      clear hres
      go_wp2
      go_ret
      exact ⟨hfin, _, rfl, HRES.out⟩

set_option maxRecDepth 100000 in
set_option maxHeartbeats 1000000 in
theorem Tell_bad (r : Int) (an ac : Option Addr) (cn cc : Nat) (N C : List Int) (w : World) (hN : Ints w an N) (hC : Ints w ac C) (hv : validB r N C = false) :
    Calls Try.prog 43 #[.agg #[.int .i64 r, .slice an N.length cn, .slice ac C.length cc]] w fun e w' => e = .returned (.tuple #[.slice none 0 0, .int .i64 10]) ∧ Below w.heap.size w w' := by
  obtain ⟨W, hW, hb, hs, x0⟩ := boxes1 w #[.int .i64 r, .slice an N.length cn, .slice ac C.length cc] 24
  clear hs
  replace hN := hN.below hb (Nat.le_refl _); replace hC := hC.below hb (Nat.le_refl _)
  have c0 := x0.cell 0 rfl; have c1 := x0.cell 1 rfl; have c2 := x0.cell 2 rfl
  go_enter Try.func43, Try.ntmps43
  go_wp2_with fail
  refine (valid_any _ _ _ _ _ _ _ _ hN hC).mono ?_
  rintro e W1 ⟨rfl, hb1⟩
  rw [hv]
  replace hb := hb.trans (hb1.mono hb.size)
  clear hW c0 c1 c2 x0 hb1 hN hC
  go_wp2
  go_ret2
  exact ⟨rfl, hb⟩
end Go.Proofs.Ytmkmnedojgigoaa
