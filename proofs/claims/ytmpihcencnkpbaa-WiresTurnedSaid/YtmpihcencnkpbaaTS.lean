import Derived.Test.YtmpihcencnkpbaaTR
/-! The reference's AllFaults. -/
namespace Go.Proofs.Ytmpihcencnkpbaa
set_option linter.unusedSimpArgs false
set_option linter.unusedVariables false
open Go Go.RowKit

theorem app_len {X Y : List F3} {a b : Nat} (h1 : X.length ≤ a) (h2 : Y.length ≤ b) : (X ++ Y).length ≤ a + b := by rw [List.length_append]; omega
set_option maxRecDepth 100000 in
set_option maxHeartbeats 8000000 in
theorem AllFaults_any (L N : Int) (aP : Option Addr) (cP : Nat) (P : List F3) (F : Int) (w : World) (hL : 1 ≤ L ∧ L ≤ 5) (hN : 1 ≤ N ∧ N ≤ 5) : Calls Try.prog 51 #[.agg #[.int .i64 L, .int .i64 N, .slice aP P.length cP, .int .i64 F]] w (LFP (allF L N) w) := by
  obtain ⟨i0, hi0, iz0, iz1, iz2⟩ := info_parts info63
  have hal := allF_len hL hN
  have hai : ∀ f ∈ allF L N, f.i64 := fun f hf => (Okf.of hL hN hf).i64
  have hal2 : allF L N = ((deadsN 1 L.toNat ++ deadsN 2 N.toNat) ++ crossN 3 L.toNat L.toNat) ++ crossN 4 N.toNat N.toNat := rfl
  obtain ⟨l, rfl⟩ : ∃ l : Nat, L = (l : Int) := ⟨L.toNat, by omega⟩
  obtain ⟨n, rfl⟩ : ∃ n : Nat, N = (n : Int) := ⟨N.toNat, by omega⟩
  rw [Int.toNat_natCast, Int.toNat_natCast] at hal2
  generalize allF (l : Int) (n : Int) = AF at *
  have hl5 : l ≤ 5 := by omega
  have hn5 : n ≤ 5 := by omega
  have HAL := hid hal2
  have HAI := hid hai
  clear hal2 hai hL hN
  obtain ⟨W, hW, hb, _, x0⟩ := boxes1 w #[.int .i64 (l : Int), .int .i64 (n : Int), .slice aP P.length cP, .int .i64 F] 24
  have hbs := hb.size
  have e0 := x0.cell 0 rfl; have e1 := x0.cell 1 rfl; have e2 := x0.cell 2 rfl; have e3 := x0.cell 3 rfl
  go_enter Try.func51, Try.ntmps51
  go_wp2
  clear hW e0 e1 e2 e3
  obtain ⟨X0, hX0⟩ : ∃ X : List F3, X = [] := ⟨_, rfl⟩
  have hown : W.ownsRow W.heap.size 63 3 (.slice none 0 0) 0 (fcells X0) := by rw [hX0]; exact World.ownsRow_nil _ _ _ _
  have hxl : X0.length ≤ 0 := by rw [hX0]; exact Nat.le_refl _
  have HQ : Hid (0 = X0.length) := hid (by rw [hX0]; rfl)
  have HX := hid hX0
  have hb1 := Below.refl W.heap.size W
  clear hX0
  go_loopw [3, 4] (fun v3 vi wr => ∃ (j q : Nat) (a : Option Addr) (c : Nat), j ≤ l ∧ Hid (q = (X0 ++ deadsN 1 j).length) ∧ vi = .int .i64 (j : Int) ∧ v3 = .slice a q c ∧ wr.ownsRow W.heap.size 63 3 (.slice a q c) q (fcells (X0 ++ deadsN 1 j)) ∧ Below W.heap.size W wr) (fun _ vi _ => l - (intOf vi).toNat)
  case atStart => exact ⟨0, 0, none, 0, Nat.zero_le _, hid (by have h := HQ.out; simpa [deadsN] using h), rfl, rfl, by simpa [deadsN] using hown, hb1⟩
  case round =>
    clear hown hb1 HQ
    obtain ⟨j, q, a, c, hj, HQ, rfl, rfl, hown, hb1⟩ := hrel
    obtain ⟨wo0, rfl⟩ : ∃ wo : World, wo = wr := ⟨_, rfl⟩
    have xr := x0.below hb1
    by_cases hlt : j < l
    · have hjI : (j : Int) < (l : Int) := by omega
      have hql : q ≤ 5 := by
        have h2 := deadsN_len 1 j
        rw [HQ.out, List.length_append, h2]; omega
      have hba := below_one (w := wo0) (.cells #[.int .i64 1, .int .i64 (j : Int), .int .i64 0] 63)
      have hcls := Cls.of_bx (Bx.new wo0 #[.int .i64 1, .int .i64 (j : Int), .int .i64 0] 63)
      have hown1 := own_below2 hown hba
      have hge := own_ge2 hown
      have hsz := hb1.size
      have e0 := xr.cell 0 rfl; have e1 := xr.cell 1 rfl; have e2 := xr.cell 2 rfl; have e3 := xr.cell 3 rfl
      go_wp2_with (at_builtin; refine wpList_appAt rfl (.tmp 16) (.tmp 19) 25 rfl W.heap.size 63 i0 (.agg #[.int .i64 0, .int .i64 0, .int .i64 0]) 3 24 under25 hi0 iz0 iz1 iz2 rfl (by decide) (.slice a q c) q _ rfl hown1 (some ⟨wo0.heap.size, 0, none⟩) 1 1 [.int .i64 1, .int .i64 (j : Int), .int .i64 0] rfl rfl hcls (fcells_one [(⟨1, (j : Int), 0⟩ : F3)]) (by unfold maxLen; omega) (by omega) (by simp; omega) ?_; intro v3 W3 hown3 hg3 hat)
      obtain ⟨a3, c3, rfl⟩ := own_slice2 hown3
      have hb3 : Below W.heap.size W W3 := (hb1.trans (hba.mono hsz)).grown hg3 (by simp; omega) hge
      have ee : X0 ++ deadsN 1 (j + 1) = (X0 ++ deadsN 1 j) ++ [⟨1, (j : Int), 0⟩] := by rw [deadsN_succ, ← List.append_assoc]
      have hown4 : W3.ownsRow W.heap.size 63 3 (.slice a3 (q + 1) c3) (q + 1) (fcells (X0 ++ deadsN 1 (j + 1))) := by
        rw [ee, fcells_app]; exact hown3
      have hq4 := hid (show q + 1 = (X0 ++ deadsN 1 (j + 1)).length by rw [ee, List.length_append, ← HQ.out]; rfl)
      clear hown hb1 hba hcls hown1 hge hown3 hg3 hat ee e0 e1 e2 e3 xr hlt
      (try go_wp2)
      go_roundw
      case rel => exact ⟨j + 1, q + 1, a3, c3, by omega, hq4, by go_num, rfl, hown4, hb3⟩
      case measure => simp [intOf]; omega
    · have hjl : l = j := by omega
      subst hjl
      have hjI : ¬ (l : Int) < (l : Int) := by omega
      obtain ⟨X1, hY⟩ : ∃ Y, Y = X0 ++ deadsN 1 l := ⟨_, rfl⟩
      have hyl : X1.length ≤ 5 := by
        have h2 := deadsN_len 1 l
        rw [hY, List.length_append, h2]; omega
      rw [← hY] at hown HQ
      have HX1 := hid hY
      clear hY hxl hlt
      have hxl := hyl
      clear hyl
      have e0 := xr.cell 0 rfl; have e1 := xr.cell 1 rfl; have e2 := xr.cell 2 rfl; have e3 := xr.cell 3 rfl
      go_wp2
      clear e0 e1 e2 e3 xr hjI
      go_loopw [3, 5] (fun v3 vi wr => ∃ (j q : Nat) (a : Option Addr) (c : Nat), j ≤ n ∧ Hid (q = (X1 ++ deadsN 2 j).length) ∧ vi = .int .i64 (j : Int) ∧ v3 = .slice a q c ∧ wr.ownsRow W.heap.size 63 3 (.slice a q c) q (fcells (X1 ++ deadsN 2 j)) ∧ Below W.heap.size W wr) (fun _ vi _ => n - (intOf vi).toNat)
      case atStart => exact ⟨0, q, a, c, Nat.zero_le _, hid (by have h := HQ.out; simpa [deadsN] using h), rfl, rfl, by simpa [deadsN] using hown, hb1⟩
      case round =>
        clear hown hb1 HQ
        obtain ⟨j, q, a, c, hj, HQ, rfl, rfl, hown, hb1⟩ := hrel
        obtain ⟨wo1, rfl⟩ : ∃ wo : World, wo = wr := ⟨_, rfl⟩
        have xr := x0.below hb1
        by_cases hlt : j < n
        · have hjI : (j : Int) < (n : Int) := by omega
          have hql : q ≤ 10 := by
            have h2 := deadsN_len 2 j
            rw [HQ.out, List.length_append, h2]; omega
          have hba := below_one (w := wo1) (.cells #[.int .i64 2, .int .i64 (j : Int), .int .i64 0] 63)
          have hcls := Cls.of_bx (Bx.new wo1 #[.int .i64 2, .int .i64 (j : Int), .int .i64 0] 63)
          have hown1 := own_below2 hown hba
          have hge := own_ge2 hown
          have hsz := hb1.size
          have e0 := xr.cell 0 rfl; have e1 := xr.cell 1 rfl; have e2 := xr.cell 2 rfl; have e3 := xr.cell 3 rfl
          go_wp2_with (at_builtin; refine wpList_appAt rfl (.tmp 27) (.tmp 30) 25 rfl W.heap.size 63 i0 (.agg #[.int .i64 0, .int .i64 0, .int .i64 0]) 3 24 under25 hi0 iz0 iz1 iz2 rfl (by decide) (.slice a q c) q _ rfl hown1 (some ⟨wo1.heap.size, 0, none⟩) 1 1 [.int .i64 2, .int .i64 (j : Int), .int .i64 0] rfl rfl hcls (fcells_one [(⟨2, (j : Int), 0⟩ : F3)]) (by unfold maxLen; omega) (by omega) (by simp; omega) ?_; intro v3 W3 hown3 hg3 hat)
          obtain ⟨a3, c3, rfl⟩ := own_slice2 hown3
          have hb3 : Below W.heap.size W W3 := (hb1.trans (hba.mono hsz)).grown hg3 (by simp; omega) hge
          have ee : X1 ++ deadsN 2 (j + 1) = (X1 ++ deadsN 2 j) ++ [⟨2, (j : Int), 0⟩] := by rw [deadsN_succ, ← List.append_assoc]
          have hown4 : W3.ownsRow W.heap.size 63 3 (.slice a3 (q + 1) c3) (q + 1) (fcells (X1 ++ deadsN 2 (j + 1))) := by
            rw [ee, fcells_app]; exact hown3
          have hq4 := hid (show q + 1 = (X1 ++ deadsN 2 (j + 1)).length by rw [ee, List.length_append, ← HQ.out]; rfl)
          clear hown hb1 hba hcls hown1 hge hown3 hg3 hat ee e0 e1 e2 e3 xr hlt
          (try go_wp2)
          go_roundw
          case rel => exact ⟨j + 1, q + 1, a3, c3, by omega, hq4, by go_num, rfl, hown4, hb3⟩
          case measure => simp [intOf]; omega
        · have hjl : n = j := by omega
          subst hjl
          have hjI : ¬ (n : Int) < (n : Int) := by omega
          obtain ⟨X2, hY⟩ : ∃ Y, Y = X1 ++ deadsN 2 n := ⟨_, rfl⟩
          have hyl : X2.length ≤ 10 := by
            have h2 := deadsN_len 2 n
            rw [hY, List.length_append, h2]; omega
          rw [← hY] at hown HQ
          have HX2 := hid hY
          clear hY hxl hlt
          have hxl := hyl
          clear hyl
          have e0 := xr.cell 0 rfl; have e1 := xr.cell 1 rfl; have e2 := xr.cell 2 rfl; have e3 := xr.cell 3 rfl
          go_wp2
          clear e0 e1 e2 e3 xr hjI
          go_loopw [3, 6, 7] (fun v3 vo vi wr => ∃ (j q : Nat) (a : Option Addr) (c : Nat), j ≤ l ∧ Hid (q = (X2 ++ crossN 3 l j).length) ∧ vo = .int .i64 (j : Int) ∧ v3 = .slice a q c ∧ wr.ownsRow W.heap.size 63 3 (.slice a q c) q (fcells (X2 ++ crossN 3 l j)) ∧ Below W.heap.size W wr) (fun _ vo _ _ => l - (intOf vo).toNat)
          case atStart => exact ⟨0, q, a, c, Nat.zero_le _, hid (by have h := HQ.out; simpa [crossN] using h), rfl, rfl, by simpa [crossN] using hown, hb1⟩
          case round =>
            clear hown hb1 HQ
            obtain ⟨j, q, a, c, hj, HQ, rfl, rfl, hown, hb1⟩ := hrel
            obtain ⟨wo2, rfl⟩ : ∃ wo : World, wo = wr := ⟨_, rfl⟩
            have xr := x0.below hb1
            by_cases hlt : j < l
            · have hjI : (j : Int) < (l : Int) := by omega
              have e9 : X2 ++ crossN 3 l j = (X2 ++ crossN 3 l j) ++ crossIn 3 j 0 := by simp [crossIn]
              have hq2 := HQ.out
              rw [e9] at hown hq2
              have HQ2 := hid hq2
              have hzl : (X2 ++ crossN 3 l j).length ≤ 35 := Nat.le_trans (app_len hxl (crossN_len 3 l j (by omega) (by omega))) (by omega)
              clear e9 HQ hq2
              obtain ⟨Z, hZ⟩ : ∃ Z, Z = X2 ++ crossN 3 l j := ⟨_, rfl⟩
              rw [← hZ] at hown HQ2 hzl
              have HZ := hid hZ
              clear hZ
              have e0 := xr.cell 0 rfl; have e1 := xr.cell 1 rfl; have e2 := xr.cell 2 rfl; have e3 := xr.cell 3 rfl
              go_wp2
              clear e0 e1 e2 e3
              go_loopw [3, 7] (fun v3 vi wi => ∃ (i q : Nat) (a : Option Addr) (c : Nat), j + 1 + i ≤ l ∧ Hid (q = (Z ++ crossIn 3 j i).length) ∧ vi = .int .i64 ((j + 1 + i : Nat) : Int) ∧ v3 = .slice a q c ∧ wi.ownsRow W.heap.size 63 3 (.slice a q c) q (fcells (Z ++ crossIn 3 j i)) ∧ Below W.heap.size W wi) (fun _ vi _ => l - (intOf vi).toNat)
              case atStart => exact ⟨0, q, a, c, by omega, HQ2, by go_num, rfl, hown, hb1⟩
              case round =>
                clear hown hb1 HQ2 xr
                obtain ⟨i, q, a, c, hi, HQ, rfl, rfl, hown, hb1⟩ := hrel
                obtain ⟨wi, rfl⟩ : ∃ wo : World, wo = wr := ⟨_, rfl⟩
                have xr := x0.below hb1
                by_cases hil : j + 1 + i < l
                · obtain ⟨t, ht⟩ : ∃ t, t = j + 1 + i := ⟨_, rfl⟩
                  rw [← ht] at hil hi ⊢
                  have HT := hid ht
                  have htI : (t : Int) < (l : Int) := by omega
                  have hql : q ≤ 35 + 5 := by
                    have h2 := crossIn_len 3 j i
                    rw [HQ.out, List.length_append, h2]; omega
                  clear ht
                  have hba := below_one (w := wi) (.cells #[.int .i64 3, .int .i64 (j : Int), .int .i64 (t : Int)] 63)
                  have hcls := Cls.of_bx (Bx.new wi #[.int .i64 3, .int .i64 (j : Int), .int .i64 (t : Int)] 63)
                  have hown1 := own_below2 hown hba
                  have hge := own_ge2 hown
                  have hsz := hb1.size
                  have e0 := xr.cell 0 rfl; have e1 := xr.cell 1 rfl; have e2 := xr.cell 2 rfl; have e3 := xr.cell 3 rfl
                  go_wp2_with (at_builtin; refine wpList_appAt rfl (.tmp 46) (.tmp 50) 25 rfl W.heap.size 63 i0 (.agg #[.int .i64 0, .int .i64 0, .int .i64 0]) 3 24 under25 hi0 iz0 iz1 iz2 rfl (by decide) (.slice a q c) q _ rfl hown1 (some ⟨wi.heap.size, 0, none⟩) 1 1 [.int .i64 3, .int .i64 (j : Int), .int .i64 (t : Int)] rfl rfl hcls (fcells_one [(⟨3, (j : Int), (t : Int)⟩ : F3)]) (by unfold maxLen; omega) (by omega) (by simp; omega) ?_; intro v3 W3 hown3 hg3 hat)
                  obtain ⟨a3, c3, rfl⟩ := own_slice2 hown3
                  have hb3 : Below W.heap.size W W3 := (hb1.trans (hba.mono hsz)).grown hg3 (by simp; omega) hge
                  have ee : Z ++ crossIn 3 j (i + 1) = (Z ++ crossIn 3 j i) ++ [⟨3, (j : Int), (t : Int)⟩] := by rw [crossIn_succ, ← List.append_assoc, HT.out]
                  have hown4 : W3.ownsRow W.heap.size 63 3 (.slice a3 (q + 1) c3) (q + 1) (fcells (Z ++ crossIn 3 j (i + 1))) := by
                    rw [ee, fcells_app]; exact hown3
                  have hq4 := hid (show q + 1 = (Z ++ crossIn 3 j (i + 1)).length by rw [ee, List.length_append, ← HQ.out]; rfl)
                  clear hown hb1 hba hcls hown1 hge hown3 hg3 hat ee e0 e1 e2 e3 xr
                  (try go_wp2)
                  go_roundw
                  case rel => exact ⟨i + 1, q + 1, a3, c3, by have := HT.out; omega, hq4, by have := HT.out; go_num, rfl, hown4, hb3⟩
                  case measure => simp [intOf]; omega
                · have hmi : i = l - (j + 1) := by omega
                  have hz2 : Z ++ crossIn 3 j i = X2 ++ crossN 3 l (j + 1) := by rw [HZ.out, hmi, crossN_succ, List.append_assoc]
                  rw [hz2] at hown
                  have hq5 := HQ.out
                  rw [hz2] at hq5
                  have HQ5 := hid hq5
                  have hmI : ¬ ((j + 1 + i : Nat) : Int) < (l : Int) := by omega
                  have e0 := xr.cell 0 rfl; have e1 := xr.cell 1 rfl; have e2 := xr.cell 2 rfl; have e3 := xr.cell 3 rfl
                  clear hmi hq5 HQ hz2 xr
                  go_wp2
                  clear e0 e1 e2 e3
                  go_roundw
                  case rel => exact ⟨j + 1, q, a, c, by omega, HQ5, by go_num, rfl, hown, hb1⟩
                  case measure => simp [intOf]; omega
            · have hjl : l = j := by omega
              subst hjl
              have hjI : ¬ (l : Int) < (l : Int) := by omega
              obtain ⟨X3, hY⟩ : ∃ Y, Y = X2 ++ crossN 3 l l := ⟨_, rfl⟩
              have hyl : X3.length ≤ 35 := by
                rw [hY]
                exact Nat.le_trans (app_len hxl (crossN_len 3 l l (by omega) (by omega))) (by omega)
              rw [← hY] at hown HQ
              have HX3 := hid hY
              clear hY hxl hlt
              have hxl := hyl
              clear hyl
              have e0 := xr.cell 0 rfl; have e1 := xr.cell 1 rfl; have e2 := xr.cell 2 rfl; have e3 := xr.cell 3 rfl
              go_wp2
              clear e0 e1 e2 e3 xr hjI
              go_loopw [3, 8, 9] (fun v3 vo vi wr => ∃ (j q : Nat) (a : Option Addr) (c : Nat), j ≤ n ∧ Hid (q = (X3 ++ crossN 4 n j).length) ∧ vo = .int .i64 (j : Int) ∧ v3 = .slice a q c ∧ wr.ownsRow W.heap.size 63 3 (.slice a q c) q (fcells (X3 ++ crossN 4 n j)) ∧ Below W.heap.size W wr) (fun _ vo _ _ => n - (intOf vo).toNat)
              case atStart => exact ⟨0, q, a, c, Nat.zero_le _, hid (by have h := HQ.out; simpa [crossN] using h), rfl, rfl, by simpa [crossN] using hown, hb1⟩
              case round =>
                clear hown hb1 HQ
                obtain ⟨j, q, a, c, hj, HQ, rfl, rfl, hown, hb1⟩ := hrel
                obtain ⟨wo3, rfl⟩ : ∃ wo : World, wo = wr := ⟨_, rfl⟩
                have xr := x0.below hb1
                by_cases hlt : j < n
                · have hjI : (j : Int) < (n : Int) := by omega
                  have e9 : X3 ++ crossN 4 n j = (X3 ++ crossN 4 n j) ++ crossIn 4 j 0 := by simp [crossIn]
                  have hq2 := HQ.out
                  rw [e9] at hown hq2
                  have HQ2 := hid hq2
                  have hzl : (X3 ++ crossN 4 n j).length ≤ 60 := Nat.le_trans (app_len hxl (crossN_len 4 n j (by omega) (by omega))) (by omega)
                  clear e9 HQ hq2
                  obtain ⟨Z, hZ⟩ : ∃ Z, Z = X3 ++ crossN 4 n j := ⟨_, rfl⟩
                  rw [← hZ] at hown HQ2 hzl
                  have HZ := hid hZ
                  clear hZ
                  have e0 := xr.cell 0 rfl; have e1 := xr.cell 1 rfl; have e2 := xr.cell 2 rfl; have e3 := xr.cell 3 rfl
                  go_wp2
                  clear e0 e1 e2 e3
                  go_loopw [3, 9] (fun v3 vi wi => ∃ (i q : Nat) (a : Option Addr) (c : Nat), j + 1 + i ≤ n ∧ Hid (q = (Z ++ crossIn 4 j i).length) ∧ vi = .int .i64 ((j + 1 + i : Nat) : Int) ∧ v3 = .slice a q c ∧ wi.ownsRow W.heap.size 63 3 (.slice a q c) q (fcells (Z ++ crossIn 4 j i)) ∧ Below W.heap.size W wi) (fun _ vi _ => n - (intOf vi).toNat)
                  case atStart => exact ⟨0, q, a, c, by omega, HQ2, by go_num, rfl, hown, hb1⟩
                  case round =>
                    clear hown hb1 HQ2 xr
                    obtain ⟨i, q, a, c, hi, HQ, rfl, rfl, hown, hb1⟩ := hrel
                    obtain ⟨wi, rfl⟩ : ∃ wo : World, wo = wr := ⟨_, rfl⟩
                    have xr := x0.below hb1
                    by_cases hil : j + 1 + i < n
                    · obtain ⟨t, ht⟩ : ∃ t, t = j + 1 + i := ⟨_, rfl⟩
                      rw [← ht] at hil hi ⊢
                      have HT := hid ht
                      have htI : (t : Int) < (n : Int) := by omega
                      have hql : q ≤ 60 + 5 := by
                        have h2 := crossIn_len 4 j i
                        rw [HQ.out, List.length_append, h2]; omega
                      clear ht
                      have hba := below_one (w := wi) (.cells #[.int .i64 4, .int .i64 (j : Int), .int .i64 (t : Int)] 63)
                      have hcls := Cls.of_bx (Bx.new wi #[.int .i64 4, .int .i64 (j : Int), .int .i64 (t : Int)] 63)
                      have hown1 := own_below2 hown hba
                      have hge := own_ge2 hown
                      have hsz := hb1.size
                      have e0 := xr.cell 0 rfl; have e1 := xr.cell 1 rfl; have e2 := xr.cell 2 rfl; have e3 := xr.cell 3 rfl
                      go_wp2_with (at_builtin; refine wpList_appAt rfl (.tmp 66) (.tmp 70) 25 rfl W.heap.size 63 i0 (.agg #[.int .i64 0, .int .i64 0, .int .i64 0]) 3 24 under25 hi0 iz0 iz1 iz2 rfl (by decide) (.slice a q c) q _ rfl hown1 (some ⟨wi.heap.size, 0, none⟩) 1 1 [.int .i64 4, .int .i64 (j : Int), .int .i64 (t : Int)] rfl rfl hcls (fcells_one [(⟨4, (j : Int), (t : Int)⟩ : F3)]) (by unfold maxLen; omega) (by omega) (by simp; omega) ?_; intro v3 W3 hown3 hg3 hat)
                      obtain ⟨a3, c3, rfl⟩ := own_slice2 hown3
                      have hb3 : Below W.heap.size W W3 := (hb1.trans (hba.mono hsz)).grown hg3 (by simp; omega) hge
                      have ee : Z ++ crossIn 4 j (i + 1) = (Z ++ crossIn 4 j i) ++ [⟨4, (j : Int), (t : Int)⟩] := by rw [crossIn_succ, ← List.append_assoc, HT.out]
                      have hown4 : W3.ownsRow W.heap.size 63 3 (.slice a3 (q + 1) c3) (q + 1) (fcells (Z ++ crossIn 4 j (i + 1))) := by
                        rw [ee, fcells_app]; exact hown3
                      have hq4 := hid (show q + 1 = (Z ++ crossIn 4 j (i + 1)).length by rw [ee, List.length_append, ← HQ.out]; rfl)
                      clear hown hb1 hba hcls hown1 hge hown3 hg3 hat ee e0 e1 e2 e3 xr
                      (try go_wp2)
                      go_roundw
                      case rel => exact ⟨i + 1, q + 1, a3, c3, by have := HT.out; omega, hq4, by have := HT.out; go_num, rfl, hown4, hb3⟩
                      case measure => simp [intOf]; omega
                    · have hmi : i = n - (j + 1) := by omega
                      have hz2 : Z ++ crossIn 4 j i = X3 ++ crossN 4 n (j + 1) := by rw [HZ.out, hmi, crossN_succ, List.append_assoc]
                      rw [hz2] at hown
                      have hq5 := HQ.out
                      rw [hz2] at hq5
                      have HQ5 := hid hq5
                      have hmI : ¬ ((j + 1 + i : Nat) : Int) < (n : Int) := by omega
                      have e0 := xr.cell 0 rfl; have e1 := xr.cell 1 rfl; have e2 := xr.cell 2 rfl; have e3 := xr.cell 3 rfl
                      clear hmi hq5 HQ hz2 xr
                      go_wp2
                      clear e0 e1 e2 e3
                      go_roundw
                      case rel => exact ⟨j + 1, q, a, c, by omega, HQ5, by go_num, rfl, hown, hb1⟩
                      case measure => simp [intOf]; omega
                · have hjl : n = j := by omega
                  subst hjl
                  have hjI : ¬ (n : Int) < (n : Int) := by omega
                  obtain ⟨X4, hY⟩ : ∃ Y, Y = X3 ++ crossN 4 n n := ⟨_, rfl⟩
                  have hyl : X4.length ≤ 60 := by
                    rw [hY]
                    exact Nat.le_trans (app_len hxl (crossN_len 4 n n (by omega) (by omega))) (by omega)
                  rw [← hY] at hown HQ
                  have HX4 := hid hY
                  clear hY hxl hlt
                  have hxl := hyl
                  clear hyl
                  have e0 := xr.cell 0 rfl; have e1 := xr.cell 1 rfl; have e2 := xr.cell 2 rfl; have e3 := xr.cell 3 rfl
                  have hXA : X4 = AF := by rw [HAL.out, HX4.out, HX3.out, HX2.out, HX1.out, HX.out, List.nil_append]
                  have hq5 := HQ.out
                  have hown5 := own_base hown hbs
                  rw [hXA] at hown5 hq5
                  rw [hq5] at hown5
                  have hres := LFP.of_own (s := AF) (a := a) (c := c) (hb.trans (hb1.mono hbs)) hown5 (by omega) HAI.out
                  rw [← hq5] at hres
                  have HR := hid hres
                  clear hres hown hown5 hq5 HQ
                  go_wp2
                  go_ret
                  exact HR.out
end Go.Proofs.Ytmpihcencnkpbaa
