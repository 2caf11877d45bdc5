import Derived.Test.YtakodllejndfeaaT10
/-! What is paid, what is owed still, what is lost. -/
namespace Go.Proofs.Ytakodllejndfeaa
set_option linter.unusedSimpArgs false
set_option linter.unusedVariables false
open Go Go.RowKit

def paidV (s o : Int) : Int := if 0 < s - o then s - o else 0
def leftO (s o : Int) : Int := if 0 < o - s then o - s else 0

set_option maxRecDepth 100000 in
set_option maxHeartbeats 1000000 in
theorem cl52_any (s o : Int) (hs : 0 ≤ s ∧ s ≤ 9999) (ho : 0 ≤ o ∧ o ≤ 9999) (w : World) : Calls Try.prog 52 #[.int .i64 s, .int .i64 o] w fun e w' => e = .returned (.int .i64 (paidV s o)) ∧ w = w' := by
  have HC := hid (show paidV s o = if 0 < s - o then s - o else 0 from rfl)
  generalize paidV s o = r at *
  have ew : IntKind.i64.wrap (s - o) = s - o := IntWalk.i64_in _ (by omega)
  by_cases h : 0 < s - o
  · have HR := hid (show r = s - o by rw [HC.out, if_pos h])
    have hm : max (0 : Int) (s - o) = s - o := by omega
    clear HC
    go_enter Try.func52, Try.ntmps52
    go_wp2
    go_ret
    exact ⟨ret_int (by rw [HR.out] <;> omega), rfl⟩
  · have HR := hid (show r = 0 by rw [HC.out, if_neg h])
    have hm : max (0 : Int) (s - o) = 0 := by omega
    clear HC
    go_enter Try.func52, Try.ntmps52
    go_wp2
    go_ret
    exact ⟨ret_int (by rw [HR.out] <;> omega), rfl⟩

set_option maxRecDepth 100000 in
set_option maxHeartbeats 1000000 in
theorem cl53_any (s o : Int) (hs : 0 ≤ s ∧ s ≤ 9999) (ho : 0 ≤ o ∧ o ≤ 9999) (w : World) : Calls Try.prog 53 #[.int .i64 s, .int .i64 o] w fun e w' => e = .returned (.int .i64 (leftO s o)) ∧ w = w' := by
  have HC := hid (show leftO s o = if 0 < o - s then o - s else 0 from rfl)
  generalize leftO s o = r at *
  have ew : IntKind.i64.wrap (o - s) = o - s := IntWalk.i64_in _ (by omega)
  by_cases h : 0 < o - s
  · have HR := hid (show r = o - s by rw [HC.out, if_pos h])
    have hm : max (0 : Int) (o - s) = o - s := by omega
    clear HC
    go_enter Try.func53, Try.ntmps53
    go_wp2
    go_ret
    exact ⟨ret_int (by rw [HR.out] <;> omega), rfl⟩
  · have HR := hid (show r = 0 by rw [HC.out, if_neg h])
    have hm : max (0 : Int) (o - s) = 0 := by omega
    clear HC
    go_enter Try.func53, Try.ntmps53
    go_wp2
    go_ret
    exact ⟨ret_int (by rw [HR.out] <;> omega), rfl⟩


/-- A row while each number of it is settled. -/
def stK (cm : Int → Int → Int) (L O : List Int) (n k : Nat) : List Int := (List.range n).map fun i => if i < k then cm (L.getD i 0) (O.getD i 0) else L.getD i 0
def stL (cm : Int → Int → Int) (L O : List Int) (n : Nat) : List Int := (List.range n).map fun i => cm (L.getD i 0) (O.getD i 0)
theorem stK_zero (cm : Int → Int → Int) (L O : List Int) (n : Nat) (hl : L.length = n) : stK cm L O n 0 = L := by
  apply List.ext_getElem?
  intro i
  by_cases hi : i < n
  · rw [show (stK cm L O n 0)[i]? = some (L.getD i 0) by unfold stK; simp [hi]]
    exact (get_of_lt 0 (by omega)).symm
  · rw [List.getElem?_eq_none (by simp [stK]; omega), List.getElem?_eq_none (by omega)]
theorem stK_end (cm : Int → Int → Int) (L O : List Int) (n : Nat) : stK cm L O n n = stL cm L O n := by
  unfold stK stL
  apply List.map_congr_left
  intro i hi
  rw [if_pos (List.mem_range.1 hi)]
theorem stK_get (cm : Int → Int → Int) (L O : List Int) {n k : Nat} (hk : k < n) : (stK cm L O n k)[k]? = some (L.getD k 0) := by unfold stK; simp [hk]
theorem stK_set (cm : Int → Int → Int) (L O : List Int) {n k : Nat} (hk : k < n) : (stK cm L O n k).set k (cm (L.getD k 0) (O.getD k 0)) = stK cm L O n (k + 1) := by
  apply List.ext_getElem?
  intro i
  rw [List.getElem?_set]
  by_cases hi : i < n
  · by_cases e : k = i
    · subst e
      rw [if_pos rfl, if_pos (by simp [stK]; omega)]
      unfold stK; simp [hk]
    · rw [if_neg e]
      unfold stK
      rw [List.getElem?_map, List.getElem?_map, List.getElem?_range hi, Option.map_some, Option.map_some]
      by_cases h2 : i < k
      · rw [if_pos h2, if_pos (by omega)]
      · rw [if_neg h2, if_neg (by omega)]
  · rw [List.getElem?_eq_none (by simp [stK]; omega)]
    split
    · rw [if_neg (by simp [stK]; omega)]; exact (List.getElem?_eq_none (by simp [stK]; omega)).symm
    · exact (List.getElem?_eq_none (by simp [stK]; omega)).symm
theorem stL_get (cm : Int → Int → Int) (L O : List Int) {n i : Nat} (hi : i < n) : (stL cm L O n)[i]? = some (cm (L.getD i 0) (O.getD i 0)) := by unfold stL; simp [hi]
theorem stL_len (cm : Int → Int → Int) (L O : List Int) (n : Nat) : (stL cm L O n).length = n := by simp [stL]
/-- What is returned of a settled royal. -/
def stR (cm : Int → Int → Int) (p : Int) (S : List Sd) (O : List Int) : List Int := if askE p S O true = 0 then stL cm (shR p S O) O O.length else []
theorem stR_ok {cm : Int → Int → Int} {p : Int} {S : List Sd} {O : List Int} (h : askE p S O true = 0) : stR cm p S O = stL cm (shR p S O) O O.length := if_pos h
theorem stR_bad {cm : Int → Int → Int} {p : Int} {S : List Sd} {O : List Int} (h : askE p S O true ≠ 0) : stR cm p S O = [] := if_neg h
theorem stR_len {cm : Int → Int → Int} {p : Int} {S : List Sd} {O : List Int} (h : askE p S O true = 0) : (stR cm p S O).length = O.length := by rw [stR_ok h, stL_len]
theorem shR_at (p : Int) (S : List Sd) (O : List Int) (i : Nat) : 0 ≤ (shR p S O).getD i 0 ∧ (shR p S O).getD i 0 ≤ 9999 := by
  by_cases h : i < (shR p S O).length
  · exact shR_rng p S O _ (List.mem_of_getElem? (get_of_lt 0 h))
  · rw [List.getD_eq_getElem?_getD, List.getElem?_eq_none (by omega)]; simp
theorem stR_rng {cm : Int → Int → Int} (hc : ∀ s o, 0 ≤ s ∧ s ≤ 9999 → 0 ≤ o ∧ o ≤ 9999 → 0 ≤ cm s o ∧ cm s o ≤ 9999) (p : Int) (S : List Sd) (O : List Int) : ∀ x ∈ stR cm p S O, 0 ≤ x ∧ x ≤ 9999 := by
  intro x hx
  by_cases hE : askE p S O true = 0
  · rw [stR_ok hE] at hx
    simp only [stL, List.mem_map, List.mem_range] at hx
    obtain ⟨i, hi, rfl⟩ := hx
    exact hc _ _ (shR_at p S O i) ((vB_ok (askE_0 hE).1).ow _ (List.mem_of_getElem? (get_of_lt 0 hi)))
  · rw [stR_bad hE] at hx; simp at hx
theorem paidV_rng (s o : Int) (hs : 0 ≤ s ∧ s ≤ 9999) (ho : 0 ≤ o ∧ o ≤ 9999) : 0 ≤ paidV s o ∧ paidV s o ≤ 9999 := by unfold paidV; split <;> omega
theorem leftO_rng (s o : Int) (hs : 0 ≤ s ∧ s ≤ 9999) (ho : 0 ≤ o ∧ o ≤ 9999) : 0 ≤ leftO s o ∧ leftO s o ≤ 9999 := by unfold leftO; split <;> omega


set_option maxRecDepth 100000 in
set_option maxHeartbeats 1000000 in
theorem settled52_bad (p : Int) (aS aO : Option Addr) (cS cO : Nat) (S : List Sd) (O : List Int) (w : World) (hX : Ry w aS aO p S O) (hE : askE p S O true ≠ 0) : Calls Try.prog 51 #[.agg #[.int .i64 p, .slice aS S.length cS, .slice aO O.length cO], .func (.func 52) #[] #[]] w fun e w' => e = .returned (.tuple #[.slice none 0 0, .int .i64 (askE p S O true)]) ∧ Below w.heap.size w w' := by
  obtain ⟨W, hW, hb, _, x0⟩ := boxes1 w #[.int .i64 p, .slice aS S.length cS, .slice aO O.length cO] 25
  have ha := Shares_bad p aS aO cS cO S O W (hX.below hb (Nat.le_refl _)) hE
  generalize askE p S O true = E at *
  have hB : (E != 0) = true := by simp [hE]
  have c0 := x0.cell 0 rfl; have c1 := x0.cell 1 rfl; have c2 := x0.cell 2 rfl
  go_enter Try.func51, Try.ntmps51
  go_wp2_with fail
  refine ha.mono ?_
  rintro e W1 ⟨rfl, hb1⟩
  replace hb := hb.trans (hb1.mono hb.size)
  go_wp2
  go_ret2
  exact ⟨rfl, hb⟩
def SetP52 (p : Int) (S : List Sd) (O : List Int) (w : World) (e : Ending) (w' : World) : Prop :=
  ∃ r : Nat, e = .returned (.tuple #[.slice (some ⟨r, 0, none⟩) O.length O.length, .int .i64 0]) ∧ Bx w' r (vrow (stR paidV p S O)) 3 ∧ Below w.heap.size w w' ∧ w.heap.size ≤ r
set_option maxRecDepth 100000 in
set_option maxHeartbeats 4000000 in
theorem settled52_ok (p : Int) (aS aO : Option Addr) (cS cO : Nat) (S : List Sd) (O : List Int) (w : World) (hX : Ry w aS aO p S O) (hE : askE p S O true = 0) : Calls Try.prog 51 #[.agg #[.int .i64 p, .slice aS S.length cS, .slice aO O.length cO], .func (.func 52) #[] #[]] w (SetP52 p S O w) := by
  obtain ⟨W, hW, hb, _, x0⟩ := boxes1 w #[.int .i64 p, .slice aS S.length cS, .slice aO O.length cO] 25
  have ha := Shares_ok p aS aO cS cO S O W (hX.below hb (Nat.le_refl _)) hE
  have hV := vB_ok (askE_0 hE).1
  unfold SetP52
  unfold SkP at ha
  rw [stR_ok hE]
  rw [← shR_ok hE] at ha
  have hll := shR_len hE
  have hra := fun i => shR_at p S O i
  generalize shR p S O = L at *
  have hO := (hX.below hb (Nat.le_refl _)).ow
  have hn6 := hV.n6
  have how := hV.ow
  obtain ⟨n, hn⟩ : ∃ n, n = O.length := ⟨_, rfl⟩
  rw [← hn] at ha hll hn6 x0 hW ⊢
  have HN := hid hn; have HLL := hid hll; have HOW := hid how
  have hnI : (n : Int) ≤ 6 := by omega
  clear hn hV hE hX hll how
  have c0 := x0.cell 0 rfl; have c1 := x0.cell 1 rfl; have c2 := x0.cell 2 rfl
  go_enter Try.func51, Try.ntmps51
  go_wp2_with fail
  refine ha.mono ?_
  rintro e W1 ⟨r, rfl, y, hb1, hr⟩
  replace hb := hb.trans (hb1.mono hb.size)
  have hO1 := hO.below hb1 (Nat.le_refl _)
  have hlW := x0.lt
  replace x0 := x0.below hb1
  have hrw : w.heap.size + 1 ≤ r := by omega
  have hOr : ∀ ad, aO = some ad → 0 < n → ad.block < r := fun ad e h0 => by
    obtain ⟨b, off, e2, hbl, _⟩ := hO.2.2 0 (by rw [← HN.out]; exact h0)
    rw [e] at e2; cases e2
    show b < r; omega
  rw [← stK_zero paidV L O n HLL.out] at y
  clear c0 c1 c2 hW ha hb1 hO hr hlW
  have c0 := x0.cell 0 rfl; have c1 := x0.cell 1 rfl; have c2 := x0.cell 2 rfl
  go_wp2
  clear c0 c1 c2
  go_loopw [21] (fun v21 wr => ∃ k : Nat, k ≤ n ∧ v21 = .int .i64 (k : Int) ∧ Bx wr r (vrow (stK paidV L O n k)) 3 ∧ Ints wr aO O ∧ Below w.heap.size w wr) (fun v21 _ => n - (intOf v21).toNat)
  case atStart => exact ⟨0, Nat.zero_le _, rfl, y, hO1, hb⟩
  case round =>
    clear y hO1 hb
    obtain ⟨k, hk, rfl, y, hO, hb⟩ := hrel
    by_cases hlt : k < n
    · obtain ⟨b, off, o, rfl, hbl, hc, hx1, hx2, hg, _⟩ := hO.at (k := k) (by rw [← HN.out]; exact hlt)
      have hkI : (k : Int) < n := by omega
      have hk0 : (0 : Int) ≤ (k : Int) := by omega
      have hoo := HOW.out o (List.mem_of_getElem? hg.out)
      have hgo : O.getD k 0 = o := getD_of hg.out
      have hgk := stK_get paidV L O hlt
      have hset := stK_set paidV L O hlt
      have hrk := hra k
      rw [hgo] at hset
      obtain ⟨s, hs⟩ : ∃ s, s = L.getD k 0 := ⟨_, rfl⟩
      rw [← hs] at hgk hset hrk
      have hcl := fun v => cl52_any s o hrk hoo v
      obtain ⟨t, ht⟩ : ∃ t, t = paidV s o := ⟨_, rfl⟩
      rw [← ht] at hset hcl
      have c0 := y.cell k (vrow_at hgk)
      have f0 := y.free k
      have z := y.set k (.int .i64 t)
      rw [vrow_set, hset] at z
      have hne := hOr _ rfl (by omega)
      have zO := hO.set (b := r) (fun _ x hx => by rw [Option.some.injEq] at hx; rw [← hx]; show b ≠ r; have : b < r := hne; omega) k (.int .i64 t)
      have zb := hb.setCell (p := ⟨r, k, none⟩) (by show w.heap.size ≤ r; omega) (.int .i64 t)
      have HZ := hid (And.intro z (And.intro zO zb))
      clear y hO hb z zO zb ht hs hgk hset hgo hg hrk hoo hne
      go_wp2_with fail
      refine (hcl _).mono ?_
      rintro e V1 ⟨rfl, rfl⟩
      go_wp2
      go_roundw
      case rel => exact ⟨k + 1, by omega, by simp, HZ.out⟩
      case measure => simp [intOf]; omega
    · have hkn : k = n := by omega
      have hkI : ¬ (k : Int) < n := by omega
      rw [hkn, stK_end] at y
      have HZ := hid (And.intro y hb)
      clear y hb hO hkn
      go_wp2
      go_ret2
      exact ⟨r, rfl, HZ.out.1, HZ.out.2, by omega⟩
theorem settled52_any (p : Int) (aS aO : Option Addr) (cS cO : Nat) (S : List Sd) (O : List Int) (w : World) (hX : Ry w aS aO p S O) : Calls Try.prog 51 #[.agg #[.int .i64 p, .slice aS S.length cS, .slice aO O.length cO], .func (.func 52) #[] #[]] w fun e w' => ∃ (a : Option Addr) (c : Nat), e = .returned (.tuple #[.slice a (stR paidV p S O).length c, .int .i64 (askE p S O true)]) ∧ Ints w' a (stR paidV p S O) ∧ Below w.heap.size w w' := by
  have hr := stR_rng paidV_rng p S O
  by_cases h : askE p S O true = 0
  · refine (settled52_ok p aS aO cS cO S O w hX h).mono ?_
    rintro e w' ⟨r, rfl, h1, h2, h3⟩
    refine ⟨_, _, by rw [stR_len h, h], Ints.of_bx h1 ?_ (fun x hx => by have := hr x hx; omega), h2⟩
    rw [stR_len h]
    have := hX.ol
    omega
  · refine (settled52_bad p aS aO cS cO S O w hX h).mono ?_
    rintro e w' ⟨rfl, h2⟩
    exact ⟨none, 0, by rw [stR_bad h]; rfl, by rw [stR_bad h]; exact Ints.nil _ _, h2⟩
set_option maxRecDepth 100000 in
set_option maxHeartbeats 1000000 in
theorem Paid_any (p : Int) (aS aO : Option Addr) (cS cO : Nat) (S : List Sd) (O : List Int) (w : World) (hX : Ry w aS aO p S O) : Calls Try.prog 28 #[.agg #[.int .i64 p, .slice aS S.length cS, .slice aO O.length cO]] w fun e w' => ∃ (a : Option Addr) (c : Nat), e = .returned (.tuple #[.slice a (stR paidV p S O).length c, .int .i64 (askE p S O true)]) ∧ Ints w' a (stR paidV p S O) ∧ Below w.heap.size w w' := by
  obtain ⟨W, hW, hb, _, x0⟩ := boxes1 w #[.int .i64 p, .slice aS S.length cS, .slice aO O.length cO] 25
  have ha := settled52_any p aS aO cS cO S O W (hX.below hb (Nat.le_refl _))
  generalize askE p S O true = E at *
  generalize stR paidV p S O = L at *
  obtain ⟨q, hq⟩ : ∃ q, q = L.length := ⟨_, rfl⟩
  rw [← hq] at ha ⊢
  have HQ := hid hq
  clear hq
  have c0 := x0.cell 0 rfl; have c1 := x0.cell 1 rfl; have c2 := x0.cell 2 rfl
  go_enter Try.func28, Try.ntmps28
  go_wp2_with fail
  refine ha.mono ?_
  rintro e W1 ⟨a, c, rfl, hI, hb1⟩
  have HH := hid (And.intro hI (hb.trans (hb1.mono hb.size)))
  clear hI hb1 hb ha hX x0
  go_wp2
  go_ret2
  exact ⟨a, c, rfl, HH.out.1, HH.out.2⟩

set_option maxRecDepth 100000 in
set_option maxHeartbeats 1000000 in
theorem settled53_bad (p : Int) (aS aO : Option Addr) (cS cO : Nat) (S : List Sd) (O : List Int) (w : World) (hX : Ry w aS aO p S O) (hE : askE p S O true ≠ 0) : Calls Try.prog 51 #[.agg #[.int .i64 p, .slice aS S.length cS, .slice aO O.length cO], .func (.func 53) #[] #[]] w fun e w' => e = .returned (.tuple #[.slice none 0 0, .int .i64 (askE p S O true)]) ∧ Below w.heap.size w w' := by
  obtain ⟨W, hW, hb, _, x0⟩ := boxes1 w #[.int .i64 p, .slice aS S.length cS, .slice aO O.length cO] 25
  have ha := Shares_bad p aS aO cS cO S O W (hX.below hb (Nat.le_refl _)) hE
  generalize askE p S O true = E at *
  have hB : (E != 0) = true := by simp [hE]
  have c0 := x0.cell 0 rfl; have c1 := x0.cell 1 rfl; have c2 := x0.cell 2 rfl
  go_enter Try.func51, Try.ntmps51
  go_wp2_with fail
  refine ha.mono ?_
  rintro e W1 ⟨rfl, hb1⟩
  replace hb := hb.trans (hb1.mono hb.size)
  go_wp2
  go_ret2
  exact ⟨rfl, hb⟩
def SetP53 (p : Int) (S : List Sd) (O : List Int) (w : World) (e : Ending) (w' : World) : Prop :=
  ∃ r : Nat, e = .returned (.tuple #[.slice (some ⟨r, 0, none⟩) O.length O.length, .int .i64 0]) ∧ Bx w' r (vrow (stR leftO p S O)) 3 ∧ Below w.heap.size w w' ∧ w.heap.size ≤ r
set_option maxRecDepth 100000 in
set_option maxHeartbeats 4000000 in
theorem settled53_ok (p : Int) (aS aO : Option Addr) (cS cO : Nat) (S : List Sd) (O : List Int) (w : World) (hX : Ry w aS aO p S O) (hE : askE p S O true = 0) : Calls Try.prog 51 #[.agg #[.int .i64 p, .slice aS S.length cS, .slice aO O.length cO], .func (.func 53) #[] #[]] w (SetP53 p S O w) := by
  obtain ⟨W, hW, hb, _, x0⟩ := boxes1 w #[.int .i64 p, .slice aS S.length cS, .slice aO O.length cO] 25
  have ha := Shares_ok p aS aO cS cO S O W (hX.below hb (Nat.le_refl _)) hE
  have hV := vB_ok (askE_0 hE).1
  unfold SetP53
  unfold SkP at ha
  rw [stR_ok hE]
  rw [← shR_ok hE] at ha
  have hll := shR_len hE
  have hra := fun i => shR_at p S O i
  generalize shR p S O = L at *
  have hO := (hX.below hb (Nat.le_refl _)).ow
  have hn6 := hV.n6
  have how := hV.ow
  obtain ⟨n, hn⟩ : ∃ n, n = O.length := ⟨_, rfl⟩
  rw [← hn] at ha hll hn6 x0 hW ⊢
  have HN := hid hn; have HLL := hid hll; have HOW := hid how
  have hnI : (n : Int) ≤ 6 := by omega
  clear hn hV hE hX hll how
  have c0 := x0.cell 0 rfl; have c1 := x0.cell 1 rfl; have c2 := x0.cell 2 rfl
  go_enter Try.func51, Try.ntmps51
  go_wp2_with fail
  refine ha.mono ?_
  rintro e W1 ⟨r, rfl, y, hb1, hr⟩
  replace hb := hb.trans (hb1.mono hb.size)
  have hO1 := hO.below hb1 (Nat.le_refl _)
  have hlW := x0.lt
  replace x0 := x0.below hb1
  have hrw : w.heap.size + 1 ≤ r := by omega
  have hOr : ∀ ad, aO = some ad → 0 < n → ad.block < r := fun ad e h0 => by
    obtain ⟨b, off, e2, hbl, _⟩ := hO.2.2 0 (by rw [← HN.out]; exact h0)
    rw [e] at e2; cases e2
    show b < r; omega
  rw [← stK_zero leftO L O n HLL.out] at y
  clear c0 c1 c2 hW ha hb1 hO hr hlW
  have c0 := x0.cell 0 rfl; have c1 := x0.cell 1 rfl; have c2 := x0.cell 2 rfl
  go_wp2
  clear c0 c1 c2
  go_loopw [21] (fun v21 wr => ∃ k : Nat, k ≤ n ∧ v21 = .int .i64 (k : Int) ∧ Bx wr r (vrow (stK leftO L O n k)) 3 ∧ Ints wr aO O ∧ Below w.heap.size w wr) (fun v21 _ => n - (intOf v21).toNat)
  case atStart => exact ⟨0, Nat.zero_le _, rfl, y, hO1, hb⟩
  case round =>
    clear y hO1 hb
    obtain ⟨k, hk, rfl, y, hO, hb⟩ := hrel
    by_cases hlt : k < n
    · obtain ⟨b, off, o, rfl, hbl, hc, hx1, hx2, hg, _⟩ := hO.at (k := k) (by rw [← HN.out]; exact hlt)
      have hkI : (k : Int) < n := by omega
      have hk0 : (0 : Int) ≤ (k : Int) := by omega
      have hoo := HOW.out o (List.mem_of_getElem? hg.out)
      have hgo : O.getD k 0 = o := getD_of hg.out
      have hgk := stK_get leftO L O hlt
      have hset := stK_set leftO L O hlt
      have hrk := hra k
      rw [hgo] at hset
      obtain ⟨s, hs⟩ : ∃ s, s = L.getD k 0 := ⟨_, rfl⟩
      rw [← hs] at hgk hset hrk
      have hcl := fun v => cl53_any s o hrk hoo v
      obtain ⟨t, ht⟩ : ∃ t, t = leftO s o := ⟨_, rfl⟩
      rw [← ht] at hset hcl
      have c0 := y.cell k (vrow_at hgk)
      have f0 := y.free k
      have z := y.set k (.int .i64 t)
      rw [vrow_set, hset] at z
      have hne := hOr _ rfl (by omega)
      have zO := hO.set (b := r) (fun _ x hx => by rw [Option.some.injEq] at hx; rw [← hx]; show b ≠ r; have : b < r := hne; omega) k (.int .i64 t)
      have zb := hb.setCell (p := ⟨r, k, none⟩) (by show w.heap.size ≤ r; omega) (.int .i64 t)
      have HZ := hid (And.intro z (And.intro zO zb))
      clear y hO hb z zO zb ht hs hgk hset hgo hg hrk hoo hne
      go_wp2_with fail
      refine (hcl _).mono ?_
      rintro e V1 ⟨rfl, rfl⟩
      go_wp2
      go_roundw
      case rel => exact ⟨k + 1, by omega, by simp, HZ.out⟩
      case measure => simp [intOf]; omega
    · have hkn : k = n := by omega
      have hkI : ¬ (k : Int) < n := by omega
      rw [hkn, stK_end] at y
      have HZ := hid (And.intro y hb)
      clear y hb hO hkn
      go_wp2
      go_ret2
      exact ⟨r, rfl, HZ.out.1, HZ.out.2, by omega⟩
theorem settled53_any (p : Int) (aS aO : Option Addr) (cS cO : Nat) (S : List Sd) (O : List Int) (w : World) (hX : Ry w aS aO p S O) : Calls Try.prog 51 #[.agg #[.int .i64 p, .slice aS S.length cS, .slice aO O.length cO], .func (.func 53) #[] #[]] w fun e w' => ∃ (a : Option Addr) (c : Nat), e = .returned (.tuple #[.slice a (stR leftO p S O).length c, .int .i64 (askE p S O true)]) ∧ Ints w' a (stR leftO p S O) ∧ Below w.heap.size w w' := by
  have hr := stR_rng leftO_rng p S O
  by_cases h : askE p S O true = 0
  · refine (settled53_ok p aS aO cS cO S O w hX h).mono ?_
    rintro e w' ⟨r, rfl, h1, h2, h3⟩
    refine ⟨_, _, by rw [stR_len h, h], Ints.of_bx h1 ?_ (fun x hx => by have := hr x hx; omega), h2⟩
    rw [stR_len h]
    have := hX.ol
    omega
  · refine (settled53_bad p aS aO cS cO S O w hX h).mono ?_
    rintro e w' ⟨rfl, h2⟩
    exact ⟨none, 0, by rw [stR_bad h]; rfl, by rw [stR_bad h]; exact Ints.nil _ _, h2⟩
set_option maxRecDepth 100000 in
set_option maxHeartbeats 1000000 in
theorem Left_any (p : Int) (aS aO : Option Addr) (cS cO : Nat) (S : List Sd) (O : List Int) (w : World) (hX : Ry w aS aO p S O) : Calls Try.prog 29 #[.agg #[.int .i64 p, .slice aS S.length cS, .slice aO O.length cO]] w fun e w' => ∃ (a : Option Addr) (c : Nat), e = .returned (.tuple #[.slice a (stR leftO p S O).length c, .int .i64 (askE p S O true)]) ∧ Ints w' a (stR leftO p S O) ∧ Below w.heap.size w w' := by
  obtain ⟨W, hW, hb, _, x0⟩ := boxes1 w #[.int .i64 p, .slice aS S.length cS, .slice aO O.length cO] 25
  have ha := settled53_any p aS aO cS cO S O W (hX.below hb (Nat.le_refl _))
  generalize askE p S O true = E at *
  generalize stR leftO p S O = L at *
  obtain ⟨q, hq⟩ : ∃ q, q = L.length := ⟨_, rfl⟩
  rw [← hq] at ha ⊢
  have HQ := hid hq
  clear hq
  have c0 := x0.cell 0 rfl; have c1 := x0.cell 1 rfl; have c2 := x0.cell 2 rfl
  go_enter Try.func29, Try.ntmps29
  go_wp2_with fail
  refine ha.mono ?_
  rintro e W1 ⟨a, c, rfl, hI, hb1⟩
  have HH := hid (And.intro hI (hb.trans (hb1.mono hb.size)))
  clear hI hb1 hb ha hX x0
  go_wp2
  go_ret2
  exact ⟨a, c, rfl, HH.out.1, HH.out.2⟩

def lostV (p : Int) (S : List Sd) (O : List Int) : Int := if askE p S O true = 0 then p - aloneS p (alS S) S else 0
theorem lostV_ok {p : Int} {S : List Sd} {O : List Int} (h : askE p S O true = 0) : lostV p S O = p - aloneS p (alS S) S := if_pos h
theorem lostV_bad {p : Int} {S : List Sd} {O : List Int} (h : askE p S O true ≠ 0) : lostV p S O = 0 := if_neg h
set_option maxRecDepth 100000 in
set_option maxHeartbeats 4000000 in
theorem Lost_any (p : Int) (aS aO : Option Addr) (cS cO : Nat) (S : List Sd) (O : List Int) (w : World) (hX : Ry w aS aO p S O) : Calls Try.prog 21 #[.agg #[.int .i64 p, .slice aS S.length cS, .slice aO O.length cO]] w fun e w' => e = .returned (.tuple #[.int .i64 (lostV p S O), .int .i64 (askE p S O true)]) ∧ Below w.heap.size w w' := by
  obtain ⟨W, hW, hb, _, x0⟩ := boxes1 w #[.int .i64 p, .slice aS S.length cS, .slice aO O.length cO] 25
  have hX1 := hX.below hb (Nat.le_refl _)
  by_cases hE : askE p S O true = 0
  · have ha := ask_ok p aS aO cS cO S O W hX1 hE
    obtain ⟨hv, _, hal⟩ := askE_0 hE
    have hV := vB_ok hv
    rw [lostV_ok hE, hE]
    have hal2 := VOk.al hV
    have hap : 0 < alS S := by omega
    have hrg := aloneS_rng hV hap S.length
    rw [List.take_length] at hrg
    have hal3 := fun V h => alone_any p aS aO cS cO S O (alS S) V h hV hap
    have hp0 := hV.p0; have hp9 := hV.p9
    unfold AkP at ha
    generalize aloneS p (alS S) S = Z at *
    generalize alS S = A at *
    generalize clL S O.length = row at *
    have hdiv : (100 * A).tdiv 100 = A := by rw [Int.tdiv_eq_ediv_of_nonneg (by omega)]; omega
    have ew : IntKind.i64.wrap A = A := IntWalk.i64_in _ (by omega)
    have ew2 : IntKind.i64.wrap (p - Z) = p - Z := IntWalk.i64_in _ (by omega)
    clear hv hV hE hX hal
    have c0 := x0.cell 0 rfl; have c1 := x0.cell 1 rfl; have c2 := x0.cell 2 rfl
    go_enter Try.func21, Try.ntmps21
    go_wp2_with fail
    refine ha.mono ?_
    rintro e W1 ⟨g, rfl, y, hb1, hg⟩
    have hba := below_one (w := W1) (.cells #[.slice (some ⟨g, 0, none⟩) O.length O.length, .int .i64 (100 * A)] 66)
    have hbW := hb.trans (hb1.mono hb.size)
    have HXa := hid (And.intro ((x0.below hb1).below hba) (And.intro (Bx.new W1 #[.slice (some ⟨g, 0, none⟩) O.length O.length, .int .i64 (100 * A)] 66) (And.intro ((hX1.below hb1 (Nat.le_refl _)).below hba (Nat.le_refl _)) (hbW.trans (hba.mono hbW.size)))))
    clear hb hb1 c0 c1 c2 hW ha hba x0 y hbW hX1 hg
    go_upto_region 4 with fail
    obtain ⟨x0, x4, hX1, hb⟩ := HXa.out
    clear HXa
    generalize W1.heap.size = sa at *
    generalize World.alloc _ _ = wa at *
    have d0 := x0.ext 0 rfl; have d1 := x0.ext 1 rfl; have d2 := x0.ext 2 rfl; have d3 := x4.ext 1 rfl
    have hal4 := fun (t : Ext wa) => hal3 t.w (hX1.below t.below (Nat.le_refl _))
    clear x0 x4 hal3
    refine wp_region_ext_lit (by kernel_rfl) (by kernel_rfl) ?_
    repeat (quiet_step (first | (go_at_call 47; exact quiet_ext (hal4 _))))
    refine wpQuiet_nil ?_
    intro _ hw'
    obtain ⟨tt, rfl⟩ := hw'
    have hbt := hb.trans (tt.below.mono hb.size)
    clear d0 d1 d2 d3 hal4 hb
    go_wp2
    go_ret2
    exact ⟨rfl, hbt⟩
  · have ha := ask_bad p aS aO cS cO S O true W hX1 hE
    rw [lostV_bad hE]
    generalize askE p S O true = E at *
    have hB : (E != 0) = true := by simp [hE]
    have c0 := x0.cell 0 rfl; have c1 := x0.cell 1 rfl; have c2 := x0.cell 2 rfl
    go_enter Try.func21, Try.ntmps21
    go_wp2_with fail
    refine ha.mono ?_
    rintro e W1 ⟨rfl, hb1⟩
    replace hb := hb.trans (hb1.mono hb.size)
    have hba := below_one (w := W1) (.cells #[.slice none 0 0, .int .i64 0] 66)
    have HXa := hid (hb.trans (hba.mono hb.size))
    clear hb hb1 c0 c1 c2 hW ha hba hX x0 hX1
    go_upto_region 2 with fail
    generalize World.alloc _ _ = wa at *
    go_wp2
    go_ret2
    exact ⟨rfl, HXa.out⟩
end Go.Proofs.Ytakodllejndfeaa
