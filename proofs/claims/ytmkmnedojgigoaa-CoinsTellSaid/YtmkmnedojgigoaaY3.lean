import Derived.Test.YtmkmnedojgigoaaY2
namespace Go.Proofs.Ytmkmnedojgigoaa
open Go.RowKit

/-- No list of so many kinds tells. -/
def NoneL (R : Nat) (N C : List Int) (i : Nat) : Prop := ∀ l ∈ levL C i, ¬ TellsB R N C l
/-- A shortest list that tells, or none. -/
def TellE (R : Nat) (N C : List Int) (w' : World) (v : Value) (b : Bool) : Prop :=
  (b = true ∧ ∃ (a : Option Addr) (c : Nat) (ks : List Int), v = .slice a ks.length c ∧ Ints w' a ks ∧ ks.length ≤ 4 ∧ ks ∈ levL C ks.length ∧ TellsB R N C ks ∧ ∀ i, i < ks.length → NoneL R N C i) ∨ (b = false ∧ v = .slice none 0 0 ∧ ∀ i, i ≤ 4 → NoneL R N C i)
def TellingE (R : Nat) (N C : List Int) (w : World) (e : Ending) (w' : World) : Prop :=
  Below w.heap.size w w' ∧ ∃ (v : Value) (b : Bool), e = .returned (.tuple #[v, .bool b]) ∧ TellE R N C w' v b

set_option maxRecDepth 100000 in
set_option maxHeartbeats 3000000 in
theorem telling_ex (R : Nat) (an ac ap : Option Addr) (cn cc cp : Nat) (N C P : List Int) (w : World) (hk : Wk w R an ac ap N C P) :
    Calls Try.prog 91 #[.agg #[.int .i64 (R : Int), .slice an N.length cn, .slice ac C.length cc, .slice ap P.length cp]] w (TellingE R N C w) := by
  have hv := hk.v
  have c4 := hv.c4
  obtain ⟨W, hW, hb, hs, x0⟩ := boxes1 w #[.int .i64 (R : Int), .slice an N.length cn, .slice ac C.length cc, .slice ap P.length cp] 73
  have x1 := Bx.new W #[.slice none 0 0] 22
  have hb1 := below_one (w := W) (.cells #[.slice none 0 0] 22)
  have hLL : LR (W.alloc (.cells #[.slice none 0 0] 22)) (some ⟨W.heap.size, 0, none⟩) (levL C 0) := fun i ks hi => by
    have h0 := lt_of_some hi
    obtain rfl : i = 0 := by simp [levL] at h0; omega
    obtain rfl : ks = [] := by simpa [levL] using hi.symm
    exact ⟨W.heap.size, 0, rfl, x1.lt, none, 0, x1.cell 0 rfl, ⟨by simp, fun x hx => by simp at hx, fun i hi => by simp at hi⟩⟩
  replace x0 := x0.below hb1
  replace hb := hb.trans (hb1.mono hb.size)
  clear hb1 hs x1
  go_enter Try.func91, Try.ntmps91
  go_wp2
  clear hW
  generalize W.alloc _ = W1 at *
  go_loopw [4, 8] (fun v4 v8 wr => ∃ (i m : Nat) (A : Option Addr) (c : Nat), i ≤ 5 ∧ v8 = .int .i64 (i : Int) ∧ v4 = .slice A m c ∧ m = (levL C i).length ∧ LR wr A (levL C i) ∧ (∀ q, q < i → NoneL R N C q) ∧ Below w.heap.size w wr ∧ Bx wr w.heap.size #[.int .i64 (R : Int), .slice an N.length cn, .slice ac C.length cc, .slice ap P.length cp] 73) (fun _ v8 _ => 5 - (intOf v8).toNat)
  case atStart => exact ⟨0, 1, _, 1, by omega, rfl, rfl, by simp [levL], hLL, fun q hq => by omega, hb, x0⟩
  case round =>
    clear hLL hb x0
    obtain ⟨i, m, A, c, hi, rfl, rfl, hm, hLL, hno, hb, x0⟩ := hrel
    have Hno := hid hno; clear hno
    obtain ⟨wo, rfl⟩ : ∃ wo : World, wo = wr := ⟨_, rfl⟩
    by_cases hlt : i < 5
    · have hltI : (i : Int) < 5 := by omega
      have hm2 : m ≤ 256 := by rw [hm]; exact Nat.le_trans (lev_len c4 i) (Nat.pow_le_pow_right (n := 4) (by omega) (show i ≤ 4 by omega))
      have Hm := hid hm; clear hm
      go_wp2
      go_loopw [12] (fun v12 wj => ∃ k : Nat, k ≤ m ∧ v12 = .int .i64 (k : Int) ∧ Below wo.heap.size wo wj ∧ ∀ q l, q < k → (levL C i)[q]? = some l → ¬ TellsB R N C l) (fun v12 _ => m - (intOf v12).toNat)
      case atStart => exact ⟨0, Nat.zero_le _, rfl, Below.refl _ _, fun q l hq => by omega⟩
      case round =>
        obtain ⟨k, hkm, rfl, hbj, hnk⟩ := hrel
        have Hnk := hid hnk; clear hnk
        obtain ⟨wj, rfl⟩ : ∃ wj : World, wj = wr := ⟨_, rfl⟩
        have hLLj := hLL.below hbj
        have x0j := x0.below hbj
        have hb2 := hb.trans (hbj.mono hb.size)
        have hkj := hk.below hb2 (Nat.le_refl _)
        by_cases hkl : k < m
        · obtain ⟨ks, hkse⟩ : ∃ ks, (levL C i)[k]? = some ks := ⟨(levL C i)[k]'(by have := Hm.out; omega), by have := Hm.out; simp⟩
          obtain ⟨hkn, hka⟩ := lev_mem i ks (List.mem_of_getElem? hkse)
          obtain ⟨b, off, rfl, hbs, a, c', hcell, hks⟩ := hLLj k ks hkse
          rw [hkn] at hcell
          have Hks := hid hkse; clear hkse
          have hklI : (k : Int) < (m : Int) := by omega
          have ht := tells_ex R an ac ap cn cc cp N C P a c' ks wj hkj hks (by omega) hka
          rw [hkn] at ht
          have Hkn := hid hkn; clear hkn
          have d0 := x0j.cell 0 rfl; have d1 := x0j.cell 1 rfl; have d2 := x0j.cell 2 rfl; have d3 := x0j.cell 3 rfl
          go_wp2_with fail
          refine ht.mono ?_
          rintro e W2 ⟨hb3, t, rfl, htb⟩
          have hb4 := hb2.trans (hb3.mono hb2.size)
          have hks2 := hks.below hb3 (Nat.le_refl _)
          have hbj2 := hbj.trans (hb3.mono hbj.size)
          clear ht hcell d0 d1 d2 d3 x0j hLLj hkj
          cases t
          · have HF := hid htb
            clear htb
            go_wp2
            go_roundw
            case rel => exact ⟨k + 1, by omega, by go_num, hbj2, fun q l hq hl => by
              rcases Nat.lt_or_ge q k with h | h
              · exact Hnk.out q l h hl
              · obtain rfl : q = k := by omega
                have e : l = ks := by have := Hks.out; rw [this] at hl; exact (Option.some.inj hl).symm
                rw [e]
                exact fun h => by have := HF.out.2 h; cases this⟩
            case measure => simp [intOf]; omega
          · have HT := hid (htb.1 rfl)
            clear htb
            go_wp2
            go_ret2
            exact ⟨hb4, _, true, rfl, .inl ⟨rfl, a, c', ks, by rw [Hkn.out]; rfl, hks2, by have := Hkn.out; omega, by rw [Hkn.out]; exact List.mem_of_getElem? Hks.out, HT.out, fun q hq => Hno.out q (by have := Hkn.out; omega)⟩⟩
        · have hklI : (m : Int) ≤ (k : Int) := by omega
          have d0 := x0j.cell 0 rfl; have d1 := x0j.cell 1 rfl; have d2 := x0j.cell 2 rfl; have d3 := x0j.cell 3 rfl
          go_wp2_with fail
          have hnoi : NoneL R N C i := fun l hl => by
            obtain ⟨q, hq, e⟩ := List.getElem_of_mem hl
            exact Hnk.out q l (by have := Hm.out; omega) (by rw [List.getElem?_eq_getElem hq, e])
          have Hni := hid hnoi; clear hnoi
          refine (longer_ex R an ac ap cn cc cp N C P A c m i (levL C i) wj hkj hLLj (lev_mem i) Hm.out (by omega) (by omega)).mono ?_
          rintro e W2 ⟨hb3, A2, c2, rfl, hLL2⟩
          have x02 := x0j.below hb3
          have hb4 := hb2.trans (hb3.mono hb2.size)
          obtain ⟨m2, hm2e⟩ : ∃ x, x = (nextL C (levL C i)).length := ⟨_, rfl⟩
          rw [← hm2e]
          have Hm3 := hid hm2e
          clear hm2e d0 d1 d2 d3 x0j hLLj hkj
          go_wp2
          go_roundw
          case rel => exact ⟨i + 1, m2, A2, c2, by omega, by go_num, rfl, Hm3.out, hLL2, fun q hq => by
            rcases Nat.lt_or_ge q i with h | h
            · exact Hno.out q h
            · obtain rfl : q = i := by omega
              exact Hni.out, hb4, x02⟩
          case measure => simp [intOf]; omega
    · have hltI : (5 : Int) ≤ (i : Int) := by omega
      clear hm
      go_wp2
      go_ret2
      exact ⟨hb, _, false, rfl, .inr ⟨rfl, rfl, fun q hq => Hno.out q (by omega)⟩⟩

def TellCE (R : Nat) (N C : List Int) (w : World) (e : Ending) (w' : World) : Prop :=
  Below w.heap.size w w' ∧ ∃ (v : Value) (b : Bool), e = .returned (.tuple #[v, .int .i64 (if b then 0 else 3)]) ∧ TellE R N C w' v b
set_option maxRecDepth 100000 in
set_option maxHeartbeats 1000000 in
theorem Tell_ex (R : Nat) (an ac : Option Addr) (cn cc : Nat) (N C : List Int) (w : World) (hN : Ints w an N) (hC : Ints w ac C) (hv : Vw R N C) :
    Calls Try.prog 43 #[.agg #[.int .i64 (R : Int), .slice an N.length cn, .slice ac C.length cc]] w (TellCE R N C w) := by
  obtain ⟨W, hW, hb, hs, x0⟩ := boxes1 w #[.int .i64 (R : Int), .slice an N.length cn, .slice ac C.length cc] 24
  clear hs
  replace hN := hN.below hb (Nat.le_refl _); replace hC := hC.below hb (Nat.le_refl _)
  have c0 := x0.cell 0 rfl; have c1 := x0.cell 1 rfl; have c2 := x0.cell 2 rfl
  have hval := hv.valid
  go_enter Try.func43, Try.ntmps43
  go_wp2_with fail
  refine (valid_any _ _ _ _ _ _ _ _ hN hC).mono ?_
  rintro e W1 ⟨rfl, hb1⟩
  rw [hval]
  clear hW
  replace hN := hN.below hb1 (Nat.le_refl _); replace hC := hC.below hb1 (Nat.le_refl _); (try clear c0 c1 c2); replace x0 := x0.below hb1; have c0 := x0.cell 0 rfl; have c1 := x0.cell 1 rfl; have c2 := x0.cell 2 rfl; replace hb := hb.trans (hb1.mono hb.size); clear hb1
  go_wp2_with fail
  refine (newWheel_any _ _ _ _ _ _ _ _ hN hC hv).mono ?_
  rintro e W2 ⟨ap, cp, P, rfl, hk, hb1, hap⟩
  replace hb := hb.trans (hb1.mono hb.size)
  clear hN hC x0 c0 c1 c2 hval hb1
  go_wp2_with fail
  refine (telling_ex R an ac ap cn cc cp N C P _ hk).mono ?_
  rintro e W3 ⟨hb1, v, b, rfl, hT⟩
  replace hb := hb.trans (hb1.mono hb.size)
  clear hk hb1
  cases b
  · go_wp2
    go_ret2
    rcases hT with ⟨h, _⟩ | ⟨_, h, h2⟩
    · cases h
    · exact ⟨hb, .slice none 0 0, false, rfl, .inr ⟨rfl, rfl, h2⟩⟩
  · go_wp2
    go_ret2
    exact ⟨hb, v, true, rfl, hT⟩
end Go.Proofs.Ytmkmnedojgigoaa
