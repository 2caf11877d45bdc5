import Derived.Test.YtmpihcencnkpbaaTE
/-! Copy; which faults are in a list. -/
namespace Go.Proofs.Ytmpihcencnkpbaa
set_option linter.unusedSimpArgs false
set_option linter.unusedVariables false
open Go Go.RowKit

/-- What Copy hands back: an equal box, whose presses are the call's own. -/
def CpP (L N : Int) (P : List F3) (F : Int) (w : World) (e : Ending) (w' : World) : Prop :=
  Below w.heap.size w w' ∧ ∃ (a : Option Addr) (c : Nat), e = .returned (.agg #[.int .i64 L, .int .i64 N, .slice a P.length c, .int .i64 F]) ∧ w'.ownsRow w.heap.size 58 3 (.slice a P.length c) P.length (fcells P)
theorem cp_row {w : World} {B n c : Nat} {a : Option Addr} {P : List F3} (h : w.ownsRow B 58 3 (.slice a n c) n (fcells P)) (hn : n = P.length) (hX : ∀ x ∈ P, x.i64) (hl : P.length ≤ 1000) : Fz w a P := by
  subst hn
  obtain ⟨a', c', e, hf, _⟩ := Fz.of_own h hl hX
  simp only [Value.slice.injEq] at e
  rw [e.1]; exact hf

set_option maxRecDepth 100000 in
set_option maxHeartbeats 3000000 in
theorem Copy_any (L N : Int) (aP : Option Addr) (cP : Nat) (P : List F3) (F : Int) (w : World) (hX : Fz w aP P) : Calls Try.prog 15 #[.agg #[.int .i64 L, .int .i64 N, .slice aP P.length cP, .int .i64 F]] w (CpP L N P F w) := by
  obtain ⟨i0, hi0, iz0, iz1, iz2⟩ := info_parts info58
  have hl := hX.len
  unfold CpP
  obtain ⟨n, hn⟩ : ∃ n, n = P.length := ⟨_, rfl⟩
  rw [← hn] at hl ⊢
  have HN := hid hn
  clear hn
  go_enter Try.func15, Try.ntmps15
  go_upto_region 2 with fail
  obtain ⟨W, hW, hb, hs, x0, x1, x3⟩ := boxes3 w #[.int .i64 L, .int .i64 N, .slice aP n cP, .int .i64 F] 24 #[.int .i64 0, .int .i64 0, .slice none 0 0, .int .i64 0] 24 #[.int .i64 L, .int .i64 N, .slice aP n cP, .int .i64 F] 24
  rw [hW]
  clear hW
  have hA := own_litB W 58 3 (B := w.heap.size + 3) (by omega)
  have hb1 := below_one (w := W) (.cells #[] 58)
  have HXa := hid (And.intro (x0.below hb1) (And.intro (x1.below hb1) (And.intro (x3.below hb1) (And.intro (hb.trans (hb1.mono hb.size)) (And.intro hA (show w.heap.size + 3 ≤ W.heap.size by omega))))))
  have hcl := ((hX.below hb (Nat.le_refl _)).below hb1 (Nat.le_refl _)).cls
  have c2 := (x0.below hb1).cell 2 rfl
  have HLN := hid (show (fcells P).length = n * 3 by rw [fcells_len, HN.out])
  clear x0 x1 x3 hb hA hb1 hs hX
  go_upto_region 3 with (at_builtin
                         obtain ⟨x0, x1, x3, hb, hA, hsz⟩ := HXa.out
                         refine wpList_appLit rfl (.tmp 5) (.tmp 7) 22 rfl (w.heap.size + 3) 58 i0 (.agg #[.int .i64 0, .int .i64 0, .int .i64 0]) 3 24 under22 hi0 iz0 iz1 iz2 rfl (by decide) W.heap.size rfl hA aP n cP (fcells P) rfl HLN.out hcl (fcells_one P) (by unfold maxLen; omega) (by omega) (by simp; omega) ?_
                         intro vO W1 hownO hbO hplO
                         clear hA
                         obtain ⟨b, d, rfl⟩ := own_slice2 hownO
                         replace x1 := x1.below hbO
                         replace x3 := x3.below hbO
                         replace hb := hb.trans (hbO.mono hb.size)
                         have hsz1 : w.heap.size + 3 ≤ W1.heap.size := by have := hbO.size; simp at this; omega
                         have e2 := x3.cell 2 rfl; have f2 := x3.free 2)
  have hge := own_ge2 hownO
  have y1 := x1.other (a := ⟨w.heap.size + 2, 2, none⟩) (by show w.heap.size + 1 ≠ w.heap.size + 2; omega) (.slice b n d)
  have y3 : Bx (W1.setCell ⟨w.heap.size + 2, 2, none⟩ (.slice b n d)) (w.heap.size + 2) #[.int .i64 L, .int .i64 N, .slice b n d, .int .i64 F] 24 := by simpa using x3.set 2 (.slice b n d)
  have yb := hb.setCell (p := ⟨w.heap.size + 2, 2, none⟩) (by show w.heap.size ≤ w.heap.size + 2; omega) (.slice b n d)
  have yo := own_keep hownO (gset W1 ⟨w.heap.size + 2, 2, none⟩ (.slice b n d)) (fun k hk e => by have := hge k hk; have e' : w.heap.size + 2 = k := (by simpa using e); omega)
  have HY := hid (And.intro y1 (And.intro y3 (And.intro yb yo)))
  clear x0 x1 x3 hownO hge y1 y3 yb yo e2 f2 hcl hb hbO HXa hplO hsz hsz1 c2
  obtain ⟨y1, y3, yb, yo⟩ := HY.out
  clear HY
  generalize World.setCell _ _ _ = V0 at *
  have hg := gput4 V0 (w.heap.size + 1) (.int .i64 L) (.int .i64 N) (.slice b n d) (.int .i64 F)
  have z1 := y1.set4 (.int .i64 L) (.int .i64 N) (.slice b n d) (.int .i64 F)
  have zb := below_put4 yb (b := w.heap.size + 1) (by omega) (.int .i64 L) (.int .i64 N) (.slice b n d) (.int .i64 F)
  have hge := own_ge2 yo
  have zo := own_keep yo hg (fun k hk e => by have := hge k hk; have e' : w.heap.size + 1 = k := (by simpa using e); omega)
  have HZ := hid (And.intro z1 (And.intro zb zo))
  have c0 := y3.cell 0 rfl; have c1 := y3.cell 1 rfl; have c2 := y3.cell 2 rfl; have c3 := y3.cell 3 rfl
  have d0 := y1.cell 0 rfl; have d1 := y1.cell 1 rfl; have d2 := y1.cell 2 rfl; have d3 := y1.cell 3 rfl
  have f0 := y1.free 0; have f1 := y1.free 1; have f2 := y1.free 2; have f3 := y1.free 3
  clear hg z1 zb zo hge y1 y3 yb yo
  go_wp2_with fail
  obtain ⟨z1, zb, zo⟩ := HZ.out
  clear HZ c0 c1 c2 c3 d0 d1 d2 d3 f0 f1 f2 f3
  generalize World.setCell _ _ _ = V4 at *
  have e0 := z1.cell 0 rfl; have e1 := z1.cell 1 rfl; have e2 := z1.cell 2 rfl; have e3 := z1.cell 3 rfl
  go_wp2
  refine bodyPost_ret (v := .agg #[.int .i64 L, .int .i64 N, .slice b n d, .int .i64 F]) ?_ rfl ⟨zb, b, d, rfl, own_base zo (by omega)⟩
  simp [results, Try.results15, go_sem, e0, e1, e2, e3]

/-- The place of a fault in a list. -/
def plN (f : F3) : List F3 → Nat
  | [] => 0
  | x :: r => if x = f then 0 else plN f r + 1
theorem plN_at {f : F3} : ∀ {pre rest : List F3}, f ∉ pre → plN f (pre ++ f :: rest) = pre.length
  | [], _, _ => by simp [plN]
  | x :: pre, rest, h => by
    simp only [List.mem_cons, not_or] at h
    rw [List.cons_append, plN, if_neg (fun e => h.1 e.symm), plN_at h.2]; rfl
def plI (xs : List F3) (f : F3) : Int := if f ∈ xs then (plN f xs : Int) else -1
set_option maxRecDepth 100000 in
set_option maxHeartbeats 2000000 in
theorem place_any (a : Option Addr) (c : Nat) (xs : List F3) (f : F3) (w : World) (hA : Fz w a xs) : Calls Try.prog 86 #[.slice a xs.length c, .agg #[.int .i64 f.k, .int .i64 f.a, .int .i64 f.b]] w fun e w' => e = .returned (.int .i64 (plI xs f)) ∧ Below w.heap.size w w' := by
  obtain ⟨W, hW, hb, _, x0⟩ := boxes1 w #[.int .i64 f.k, .int .i64 f.a, .int .i64 f.b] 63
  replace hA := hA.below hb (Nat.le_refl _)
  have hlen := hA.len
  have hR0 : Hid (f ∉ xs → plI xs f = -1) := hid fun h => by unfold plI; rw [if_neg h]
  have hR1 : Hid (∀ k : Nat, f ∉ xs.take k → xs.drop k = f :: xs.drop (k + 1) → k ≤ xs.length → plI xs f = (k : Int)) := hid fun k h1 h2 h3 => by
    have e : xs = xs.take k ++ f :: xs.drop (k + 1) := by rw [← h2, List.take_append_drop]
    have hm : f ∈ xs := by rw [e]; simp
    have hp := plN_at (f := f) (pre := xs.take k) (rest := xs.drop (k + 1)) h1
    rw [← e, List.length_take, Nat.min_eq_left h3] at hp
    unfold plI; rw [if_pos hm, hp]
  generalize plI xs f = r at *
  obtain ⟨n, hn⟩ : ∃ n, n = xs.length := ⟨_, rfl⟩
  rw [← hn] at hlen ⊢
  have HN := hid hn
  clear hn
  have c0 := x0.cell 0 rfl; have c1 := x0.cell 1 rfl; have c2 := x0.cell 2 rfl
  go_enter Try.func86, Try.ntmps86
  go_wp2
  clear c0 c1 c2 hW
  go_loopw [5] (fun v5 wr => ∃ k : Nat, k ≤ n ∧ v5 = .int .i64 (k : Int) ∧ Below W.heap.size W wr ∧ Hid (f ∉ xs.take k)) (fun v5 _ => n - (intOf v5).toNat)
  case atStart => exact ⟨0, Nat.zero_le _, rfl, Below.refl _ _, hid (by simp)⟩
  case round =>
    obtain ⟨k, hk, rfl, hb1, hnot⟩ := hrel
    by_cases hlt : k < n
    · obtain ⟨b1, o1, x, rfl, _, ⟨q0, q1, q2⟩, _, _, _, hdr, htk⟩ := (hA.below hb1 (Nat.le_refl _)).at (k := k) (by rw [← HN.out]; exact hlt)
      have hkI : (k : Int) < n := by omega
      have hk0 : (0 : Int) ≤ (k : Int) := by omega
      have xr := x0.below hb1
      have c0 := xr.cell 0 rfl; have c1 := xr.cell 1 rfl; have c2 := xr.cell 2 rfl
      have hxx := f3_eql63 x f
      have hc2 : x = f → r = (k : Int) := fun e => hR1.out k hnot.out (by rw [hdr.out, e]) (by rw [← HN.out]; omega)
      have HC := hid hc2
      have hn2 : x ≠ f → f ∉ xs.take (k + 1) := fun e h => by
        rw [htk.out] at h
        rcases List.mem_append.1 h with h | h
        · exact hnot.out h
        · exact e (List.mem_singleton.1 h).symm
      have HN2 := hid hn2
      obtain ⟨z, hz⟩ : ∃ z, z = decide (x = f) := ⟨_, rfl⟩
      rw [← hz] at hxx
      have HZ := hid hz
      have u0 := Ext.cell q0; have u1 := Ext.cell q1; have u2 := Ext.cell q2
      have s0 := Ext.cell c0; have s1 := Ext.cell c1; have s2 := Ext.cell c2
      clear q0 q1 q2 c0 c1 c2 hdr htk hc2 hn2 hz xr
      go_upto_region 4 with fail
      refine wp_region_ext_lit (by kernel_rfl) (by kernel_rfl) ?_
      repeat (quiet_step (fail))
      refine wpQuiet_nil ?_
      intro _ hw'
      obtain ⟨tt, rfl⟩ := hw'
      have hb2 := hb1.trans (tt.below.mono hb1.size)
      cases z
      · have hne : x ≠ f := by have := HZ.out; simpa using this.symm
        have hnot2 := hid (HN2.out hne)
        clear hne HC HN2 HZ hnot u0 u1 u2 s0 s1 s2
        go_wp2
        go_roundw
        case rel => exact ⟨k + 1, by omega, by simp, hb2, hnot2⟩
        case measure => simp [intOf]; omega
      · have he : x = f := by have := HZ.out; simpa using this.symm
        have HR := hid (HC.out he)
        replace hb := hb.trans (hb2.mono hb.size)
        clear he HC HN2 HZ hnot u0 u1 u2 s0 s1 s2
        go_wp2
        go_ret
        exact ⟨ret_int (by rw [HR.out]), hb⟩
    · obtain rfl : k = n := by omega
      have hall : f ∉ xs := by
        have := hnot.out
        rwa [HN.out, List.take_length] at this
      have HR := hid (hR0.out hall)
      replace hb := hb.trans (hb1.mono hb.size)
      clear hall hnot
      go_wp2
      go_ret
      exact ⟨ret_int (by rw [HR.out]), hb⟩
def hasF (xs : List F3) (f : F3) : Bool := decide (f ∈ xs)
set_option maxRecDepth 100000 in
set_option maxHeartbeats 1000000 in
theorem Has_any (a : Option Addr) (c : Nat) (xs : List F3) (f : F3) (w : World) (hA : Fz w a xs) : Calls Try.prog 77 #[.slice a xs.length c, .agg #[.int .i64 f.k, .int .i64 f.a, .int .i64 f.b]] w fun e w' => e = .returned (.bool (hasF xs f)) ∧ Below w.heap.size w w' := by
  obtain ⟨W, hW, hb, _, x0⟩ := boxes1 w #[.int .i64 f.k, .int .i64 f.a, .int .i64 f.b] 63
  have hp := place_any a c xs f W (hA.below hb (Nat.le_refl _))
  have hpl : hasF xs f = decide (0 ≤ plI xs f) := by
    unfold hasF plI
    by_cases h : f ∈ xs
    · rw [if_pos h, decide_eq_true h, decide_eq_true (by omega)]
    · rw [if_neg h, decide_eq_false h]; rfl
  rw [hpl]
  generalize plI xs f = p at *
  obtain ⟨n, hn⟩ : ∃ n, n = xs.length := ⟨_, rfl⟩
  rw [← hn] at hp ⊢
  clear hn hpl hA
  have c0 := x0.cell 0 rfl; have c1 := x0.cell 1 rfl; have c2 := x0.cell 2 rfl
  by_cases h0 : 0 ≤ p
  · go_enter Try.func77, Try.ntmps77
    go_wp2_with fail
    refine hp.mono ?_
    rintro e W1 ⟨rfl, hb1⟩
    replace hb := hb.trans (hb1.mono hb.size)
    clear hW hb1 c0 c1 c2 x0 hp
    go_wp2
    go_ret
    exact ⟨ret_bool (by simp [h0]), hb⟩
  · have h0' : p < 0 := by omega
    go_enter Try.func77, Try.ntmps77
    go_wp2_with fail
    refine hp.mono ?_
    rintro e W1 ⟨rfl, hb1⟩
    replace hb := hb.trans (hb1.mono hb.size)
    clear hW hb1 c0 c1 c2 x0 hp
    go_wp2
    go_ret
    exact ⟨ret_bool (by first | (simp; done) | (simp; omega)), hb⟩
/-- All faults of the first list are in the second one. -/
def subB (xs ys : List F3) : Bool := xs.all fun f => hasF ys f
theorem subB_no {xs ys : List F3} {f : F3} (hf : f ∈ xs) (h : hasF ys f = false) : subB xs ys = false := by
  unfold subB
  rw [← Bool.not_eq_true, List.all_eq_true]
  intro hh
  rw [hh f hf] at h; cases h
set_option maxRecDepth 100000 in
set_option maxHeartbeats 2000000 in
theorem areIn_any (a b : Option Addr) (ca cb : Nat) (xs ys : List F3) (w : World) (hA : Fz w a xs) (hB : Fz w b ys) (h1 : xs.length ≤ 40) (h2 : ys.length ≤ 40) : Calls Try.prog 47 #[.slice a xs.length ca, .slice b ys.length cb] w fun e w' => e = .returned (.bool (subB xs ys)) ∧ Below w.heap.size w w' := by
  have HNO := fun f hf h => subB_no (xs := xs) (ys := ys) (f := f) hf h
  have HA : xs.all (fun f => hasF ys f) = true → subB xs ys = true := fun h => h
  generalize subB xs ys = r at *
  have hhas := fun f V hV => Has_any b cb ys f V hV
  obtain ⟨n, hn⟩ : ∃ n, n = xs.length := ⟨_, rfl⟩
  obtain ⟨m, hm⟩ : ∃ m, m = ys.length := ⟨_, rfl⟩
  rw [← hn] at h1 ⊢
  rw [← hm] at h2 hhas ⊢
  have HN := hid hn
  have h1I : (n : Int) ≤ 40 := by omega
  have h2I : (m : Int) ≤ 40 := by omega
  clear hn hm
  go_enter Try.func47, Try.ntmps47
  go_wp2
  go_loopw [5] (fun v5 wr => ∃ k : Nat, k ≤ n ∧ v5 = .int .i64 (k : Int) ∧ Below w.heap.size w wr ∧ Hid ((xs.take k).all (fun f => hasF ys f) = true)) (fun v5 _ => n - (intOf v5).toNat)
  case atStart => exact ⟨0, Nat.zero_le _, rfl, Below.refl _ _, hid rfl⟩
  case round =>
    obtain ⟨k, hk, rfl, hb, hall⟩ := hrel
    by_cases hlt : k < n
    · obtain ⟨b1, o1, x, rfl, _, ⟨q0, q1, q2⟩, _, hmem, _, _, htk⟩ := (hA.below hb (Nat.le_refl _)).at (k := k) (by rw [← HN.out]; exact hlt)
      have hkI : (k : Int) < n := by omega
      have hk0 : (0 : Int) ≤ (k : Int) := by omega
      have hBr := hB.below hb (Nat.le_refl _)
      have hh := hhas x wr hBr
      have hno := HNO x hmem
      cases hz : hasF ys x
      · rw [hz] at hh
        have HR := hid (hno hz)
        clear hno hz hmem htk hall HA HNO
        go_wp2_with fail
        refine hh.mono ?_
        rintro e V1 ⟨rfl, hb1⟩
        replace hb := hb.trans (hb1.mono hb.size)
        clear hb1 hh q0 q1 q2 hBr
        go_wp2
        go_ret
        exact ⟨ret_bool (by rw [HR.out]), hb⟩
      · rw [hz] at hh
        have HK2 := hid (show (xs.take (k + 1)).all (fun f => hasF ys f) = true by rw [htk.out]; exact all_snoc3 hall.out hz)
        clear hno hz hmem htk hall HA HNO
        go_wp2_with fail
        refine hh.mono ?_
        rintro e V1 ⟨rfl, hb1⟩
        replace hb := hb.trans (hb1.mono hb.size)
        clear hb1 hh q0 q1 q2 hBr
        go_wp2
        go_roundw
        case rel => exact ⟨k + 1, by omega, by simp, hb, HK2⟩
        case measure => simp [intOf]; omega
    · obtain rfl : k = n := by omega
      have ha : xs.all (fun f => hasF ys f) = true := by
        have := hall.out
        rwa [HN.out, List.take_length] at this
      have HR := hid (HA ha)
      clear ha hall HA HNO
      go_wp2
      go_ret
      exact ⟨ret_bool (by rw [HR.out]), hb⟩
set_option maxRecDepth 100000 in
set_option maxHeartbeats 2000000 in
theorem In_any (a : Option Addr) (c : Nat) (xs : List Int) (y : Int) (w : World) (hA : Ints w a xs) : Calls Try.prog 45 #[.slice a xs.length c, .int .i64 y] w fun e w' => e = .returned (.bool (decide (y ∈ xs))) ∧ Below w.heap.size w w' := by
  have hlen := hA.len
  have hR0 : Hid (y ∉ xs → decide (y ∈ xs) = false) := hid fun h => by simp [h]
  have hR1 : Hid (y ∈ xs → decide (y ∈ xs) = true) := hid fun h => by simp [h]
  generalize decide (y ∈ xs) = r at *
  obtain ⟨n, hn⟩ : ∃ n, n = xs.length := ⟨_, rfl⟩
  rw [← hn] at hlen ⊢
  have HN := hid hn
  clear hn
  go_enter Try.func45, Try.ntmps45
  go_wp2
  go_loopw [5] (fun v5 wr => ∃ k : Nat, k ≤ n ∧ v5 = .int .i64 (k : Int) ∧ wr = w ∧ Hid (y ∉ xs.take k)) (fun v5 _ => n - (intOf v5).toNat)
  case atStart => exact ⟨0, Nat.zero_le _, rfl, rfl, hid (by simp)⟩
  case round =>
    obtain ⟨k, hk, rfl, rfl, hnot⟩ := hrel
    by_cases hlt : k < n
    · obtain ⟨b1, o1, x, rfl, _, hc1, _, _, hg1, _⟩ := hA.at (k := k) (by rw [← HN.out]; exact hlt)
      have hkI : (k : Int) < n := by omega
      have hk0 : (0 : Int) ≤ (k : Int) := by omega
      have htk : xs.take (k + 1) = xs.take k ++ [x] := by rw [List.take_add_one, hg1.out]; rfl
      cases hB : (x == y)
      · have hne : x ≠ y := by simpa using hB
        have hnot2 := hid (show y ∉ xs.take (k + 1) by
          rw [htk]; intro h
          rcases List.mem_append.1 h with h | h
          · exact hnot.out h
          · exact hne (List.mem_singleton.1 h).symm)
        clear hne htk hg1 hnot
        go_wp2
        go_roundw
        case rel => exact ⟨k + 1, by omega, by simp, trivial, hnot2⟩
        case measure => simp [intOf]; omega
      · have he : x = y := by simpa using hB
        have HR := hid (hR1.out (by rw [← he]; exact List.mem_of_getElem? hg1.out))
        clear he htk hg1 hnot
        go_wp2
        go_ret
        exact ⟨ret_bool (by rw [HR.out]), Below.refl _ _⟩
    · obtain rfl : k = n := by omega
      have hall : y ∉ xs := by
        have := hnot.out
        rwa [HN.out, List.take_length] at this
      have HR := hid (hR0.out hall)
      clear hall hnot
      go_wp2
      go_ret
      exact ⟨ret_bool (by rw [HR.out]), Below.refl _ _⟩
end Go.Proofs.Ytmpihcencnkpbaa
