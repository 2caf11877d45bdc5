import Derived.Test.YtakodllejndfeaaT22
import Derived.Test.YtakodllejndfeaaT19
/-! The reference's shares: a cent more, one after another, for the greatest rest that is left. -/
namespace Go.Proofs.Ytakodllejndfeaa
set_option linter.unusedSimpArgs false
set_option linter.unusedVariables false
open Go Go.RowKit

def rsL (P : Int) (E : List Int) (A : Int) (n : Nat) : List Int := (List.range n).map fun i => rsV P E A (i : Nat)
theorem flL_succ (P : Int) (E : List Int) (A : Int) (k : Nat) : flL P E A (k + 1) = flL P E A k ++ [flV P E A (k : Nat)] := by unfold flL; rw [List.range_succ, List.map_append]; rfl
theorem rsL_succ (P : Int) (E : List Int) (A : Int) (k : Nat) : rsL P E A (k + 1) = rsL P E A k ++ [rsV P E A (k : Nat)] := by unfold rsL; rw [List.range_succ, List.map_append]; rfl
/-- The rests after k cents. -/
def rsK (P : Int) (E : List Int) (A : Int) (n : Nat) (W : List Int) (k : Nat) : List Int := (List.range n).map fun i : Nat => if (i : Int) ∈ W.take k then -1 else rsV P E A (i : Nat)
theorem rsK_zero (P : Int) (E : List Int) (A : Int) (n : Nat) (W : List Int) : rsK P E A n W 0 = rsL P E A n := by
  unfold rsK rsL; simp
theorem rsK_at (P : Int) (E : List Int) (A : Int) {n : Nat} (W : List Int) (k : Nat) {i : Nat} (hi : i < n) : (rsK P E A n W k)[i]? = some (if (i : Int) ∈ W.take k then -1 else rsV P E A (i : Nat)) := by
  unfold rsK; simp [hi]
theorem rsK_len (P : Int) (E : List Int) (A : Int) (n : Nat) (W : List Int) (k : Nat) : (rsK P E A n W k).length = n := by simp [rsK]
theorem rsK_set {P : Int} {E : List Int} {A : Int} {n : Nat} {W : List Int} (h : Ord P E A n W) {k : Nat} {x : Nat} (hx : W[k]? = some (x : Int)) (hxn : x < n) : (rsK P E A n W k).set x (-1) = rsK P E A n W (k + 1) := by
  have hk : k < W.length := (List.getElem?_eq_some_iff.1 hx).1
  have he : W[k] = (x : Int) := (List.getElem?_eq_some_iff.1 hx).2
  have hin : (x : Int) ∈ W.take (k + 1) := by
    rw [h.mem_take (by omega), ← he, h.rank hk]; omega
  apply List.ext_getElem?
  intro i
  rw [List.getElem?_set]
  by_cases hi : i < n
  · rw [rsK_at P E A W (k + 1) hi, rsK_at P E A W k hi, rsK_len]
    by_cases e : x = i
    · subst e
      rw [if_pos rfl, if_pos hxn, if_pos hin]
    · rw [if_neg e]
      have : ((i : Int) ∈ W.take k ↔ (i : Int) ∈ W.take (k + 1)) := by
        rw [List.take_add_one, hx]
        simp only [Option.toList_some, List.mem_append, List.mem_singleton]
        constructor
        · exact .inl
        · rintro (h | h)
          · exact h
          · exact absurd (by omega : x = i) e
      by_cases h2 : (i : Int) ∈ W.take k
      · rw [if_pos h2, if_pos (this.1 h2)]
      · rw [if_neg h2, if_neg (fun h3 => h2 (this.2 h3))]
  · rw [List.getElem?_eq_none (by rw [rsK_len]; omega), List.getElem?_eq_none (by rw [rsK_len]; omega)]
    split
    · rw [if_neg (by rw [rsK_len]; omega)]
    · rfl
/-- The first of the greatest among the first i. -/
def bstF (R : List Int) : Nat → Nat
  | 0 => 0
  | i + 1 => if R.getD (bstF R i) 0 < R.getD i 0 then i else bstF R i
theorem bstF_succ (R : List Int) (i : Nat) : bstF R (i + 1) = if R.getD (bstF R i) 0 < R.getD i 0 then i else bstF R i := rfl
theorem bstF_lt (R : List Int) : ∀ i, 0 < i → bstF R i < i
  | 0, h => by omega
  | i + 1, _ => by
    rw [bstF_succ]
    split
    · omega
    · rcases Nat.eq_zero_or_pos i with rfl | h
      · simp [bstF]
      · have := bstF_lt R i h; omega
theorem bstF_is {R : List Int} {n x : Nat} (hx : x < n) (h1 : ∀ j, j < x → R.getD j 0 < R.getD x 0) (h2 : ∀ j, x < j → j < n → R.getD j 0 ≤ R.getD x 0) : bstF R n = x := by
  have key : ∀ i, x < i → i ≤ n → bstF R i = x := by
    intro i
    induction i with
    | zero => intro h; omega
    | succ i ih =>
      intro hxi hin
      rw [bstF_succ]
      rcases Nat.lt_or_ge x i with h | h
      · rw [ih h (by omega), if_neg (by have := h2 i h (by omega); omega)]
      · obtain rfl : i = x := by omega
        rcases Nat.eq_zero_or_pos i with rfl | h0
        · simp [bstF]
        · rw [if_pos (h1 _ (bstF_lt R i h0))]
  exact key n hx (Nat.le_refl _)
/-- The k-th in order has the greatest rest that is left. -/
theorem bst_ord {P : Int} {E : List Int} {A : Int} {n : Nat} {W : List Int} (hC : COk P E A n) (h : Ord P E A n W) {k x : Nat} (hx : W[k]? = some (x : Int)) (hxn : x < n) : bstF (rsK P E A n W k) n = x := by
  have hk : k < W.length := (List.getElem?_eq_some_iff.1 hx).1
  have he : W[k] = (x : Int) := (List.getElem?_eq_some_iff.1 hx).2
  have hnot : (x : Int) ∉ W.take k := by
    rw [h.mem_take (by omega), ← he, h.rank hk]; omega
  have gx : (rsK P E A n W k).getD x 0 = rsV P E A (x : Nat) := getD_of (by rw [rsK_at P E A W k hxn, if_neg hnot])
  have hall : ∀ j, j < n → j ≠ x → (rsK P E A n W k).getD j 0 = -1 ∨ ((rsK P E A n W k).getD j 0 = rsV P E A (j : Nat) ∧ ltV P E A (x : Nat) (j : Nat) = true) := by
    intro j hj hne
    by_cases hm : (j : Int) ∈ W.take k
    · left; exact getD_of (by rw [rsK_at P E A W k hj, if_pos hm])
    · right
      refine ⟨getD_of (by rw [rsK_at P E A W k hj, if_neg hm]), ?_⟩
      have hmem : (j : Int) ∈ W := h.perm.mem_iff.2 (mem_idxL.2 (by omega))
      obtain ⟨q, hq, eq⟩ := List.mem_iff_getElem.1 hmem
      have hqk : k < q := by
        rcases Nat.lt_trichotomy q k with h1 | h1 | h1
        · exact absurd (List.mem_iff_getElem.2 ⟨q, by rw [List.length_take]; omega, by rw [List.getElem_take]; exact eq⟩) hm
        · subst h1
          rw [he] at eq; omega
        · exact h1
      have := h.lt hqk hq
      rw [he, eq] at this
      exact this
  have r0 := (rsV_rng hC (x : Nat)).1
  refine bstF_is hxn (fun j hj => ?_) (fun j hj hjn => ?_)
  · rw [gx]
    rcases hall j (by omega) (by omega) with h1 | ⟨h1, h2⟩
    · rw [h1]; omega
    · rw [h1]; rw [ltV_iff] at h2; omega
  · rw [gx]
    rcases hall j hjn (by omega) with h1 | ⟨h1, h2⟩
    · rw [h1]; omega
    · rw [h1]; rw [ltV_iff] at h2; omega
theorem rsL_rng {P : Int} {E : List Int} {A : Int} {n : Nat} (h : QOk P E A n) (i : Int) : 0 ≤ rsV P E A i ∧ rsV P E A i < 6000001 := by
  have h1 := rsV_rng h.toCOk i
  have := h.a9
  omega

/-- The world while rows are made side by side. -/
structure SoW (w : World) (C : Array Value) (u3 u4 : Value) (k : Nat) (L3 L4 : List Int) (wr : World) : Prop where
  x0 : Bx wr w.heap.size C 25
  o3 : wr.ownsRow (w.heap.size + 1) 3 1 u3 k (L3.map (Value.int .i64))
  o4 : wr.ownsRow (w.heap.size + 1) 3 1 u4 k (L4.map (Value.int .i64))
  dis : ∀ r, u3.ownBlock = some r → u4.ownBlock ≠ some r
  bl : Below w.heap.size w wr
  sz : w.heap.size + 1 ≤ wr.heap.size
theorem SoW.below {w : World} {C : Array Value} {u3 u4 : Value} {k : Nat} {L3 L4 : List Int} {V V' : World} (h : SoW w C u3 u4 k L3 L4 V) (hb : Below V.heap.size V V') : SoW w C u3 u4 k L3 L4 V' :=
  ⟨h.x0.below hb, own_below2 h.o3 hb, own_below2 h.o4 hb, h.dis, h.bl.trans (hb.mono h.bl.size), Nat.le_trans h.sz hb.size⟩
/-- What sharesOf returns. -/
def SoP (L : List Int) (n : Nat) (w : World) (e : Ending) (w' : World) : Prop :=
  ∃ (r c : Nat), e = .returned (.slice (some ⟨r, 0, none⟩) n c) ∧ w'.ownsRow w.heap.size 3 1 (.slice (some ⟨r, 0, none⟩) n c) n (L.map (Value.int .i64)) ∧ Below w.heap.size w w'

set_option maxRecDepth 100000 in
set_option maxHeartbeats 8000000 in
theorem sharesOf_any (p : Int) (aS aO : Option Addr) (cS cO : Nat) (S : List Sd) (O : List Int) (w : World) (hX : Ry w aS aO p S O) (hV : VOk p S O) (ha : alS S ≠ 0) : Calls Try.prog 62 #[.agg #[.int .i64 p, .slice aS S.length cS, .slice aO O.length cO]] w (SoP (shL p (clL S O.length) (100 * alS S) O.length) O.length w) := by
  obtain ⟨j0, hj, jz0, jz1, jz2⟩ := info_parts info3i
  have hQ := qok_of hV ha hV.p0 hV.p9
  obtain ⟨Wo, hO⟩ := ord_ex p (clL S O.length) (100 * alS S) O.length
  have hend := fun k hk => shK_end hQ.toCOk hO (k := k) hk
  have hpt := fun (k : Nat) (V : World) h => Part_any p aS aO cS cO S O (k : Int) V h hV
  have hpt2 : ∀ k, k < O.length → ∀ (V : World), Ry V aS aO p S O → Calls Try.prog 18 #[.agg #[.int .i64 p, .slice aS S.length cS, .slice aO O.length cO], .int .i64 (k : Int)] V fun e w' => e = .returned (.tuple #[.int .i64 (p * (clL S O.length).getD k 0), .int .i64 (100 * alS S)]) ∧ Below V.heap.size V w' := fun k hk V h => by
    rw [clL_getD S hk]; exact hpt k V h
  have hn0 : 0 < O.length := by
    rcases Nat.eq_zero_or_pos O.length with h | h
    · have := hQ.sum
      rw [h] at this
      have h2 := hQ.a0
      simp [sumR] at this; omega
    · exact h
  have hXS := fun (V : World) (h : Below w.heap.size w V) => hX.below h (Nat.le_refl _)
  clear hpt hV ha
  unfold SoP
  generalize clL S O.length = E at *
  generalize 100 * alS S = A at *
  obtain ⟨n, hn⟩ : ∃ n, n = O.length := ⟨_, rfl⟩
  obtain ⟨m, hm⟩ : ∃ m, m = S.length := ⟨_, rfl⟩
  rw [← hn] at hQ hO hend hpt2 hn0 ⊢
  rw [← hm] at hpt2 ⊢
  have hn6 := hQ.n6
  have hnI : (n : Int) ≤ 6 := by omega
  clear hn hm hX
  go_enter Try.func62, Try.ntmps62
  go_upto_region 2 with fail
  obtain ⟨W, hW, hb, hs, x0⟩ := boxes1 w #[.int .i64 p, .slice aS m cS, .slice aO n cO] 25
  rw [hW]
  clear hW
  have E0 : SoW w #[.int .i64 p, .slice aS m cS, .slice aO n cO] (.slice none 0 0) (.slice none 0 0) 0 (flL p E A 0) (rsL p E A 0) W :=
    ⟨x0, World.ownsRow_nil _ _ _ _, World.ownsRow_nil _ _ _ _, fun r hr => by simp [Value.ownBlock] at hr, hb, by omega⟩
  have c0 := x0.cell 0 rfl
  go_wp2
  clear c0 x0 hb hs
  go_loopw [3, 4, 5, 6] (fun u3 u4 v5 v6 wr => ∃ k : Nat, k ≤ n ∧ v6 = .int .i64 (k : Int) ∧ v5 = .int .i64 (p - sumR k fun i => flV p E A (i : Nat)) ∧ SoW w #[.int .i64 p, .slice aS m cS, .slice aO n cO] u3 u4 k (flL p E A k) (rsL p E A k) wr) (fun _ _ _ v6 _ => n - (intOf v6).toNat)
  case atStart => exact ⟨0, Nat.zero_le _, rfl, by simp [sumR], E0⟩
  case round =>
    clear E0
    obtain ⟨k, hk, rfl, rfl, EE⟩ := hrel
    have hX0 := EE.x0
    have c0 := hX0.cell 0 rfl; have c1 := hX0.cell 1 rfl; have c2 := hX0.cell 2 rfl
    by_cases hlt : k < n
    · have hkI : (k : Int) < n := by omega
      have hk0 : (0 : Int) ≤ (k : Int) := by omega
      have hm := hQ.mul hlt
      have ha := hQ.a0
      have hfl := flV_le hQ hlt
      have hrs := rsL_rng hQ (k : Nat)
      have hsr := sumR_rng (k := k) (f := fun i => flV p E A (i : Nat)) (b := 59994000000) (fun i hi => flV_le hQ (by omega))
      have hss := sumR_succ k fun i => flV p E A (i : Nat)
      have hp := hQ.p0; have hp9 := hQ.p9
      have hfd : flV p E A (k : Nat) = p * E.getD k 0 / A := by unfold flV; rw [Int.toNat_natCast]
      have hrd : rsV p E A (k : Nat) = p * E.getD k 0 % A := by unfold rsV; rw [Int.toNat_natCast]
      have hL3 := flL_succ p E A k
      have hL4 := rsL_succ p E A k
      have hpa := hpt2 k hlt _ (hXS _ EE.bl)
      obtain ⟨N, hN⟩ : ∃ N, N = p * E.getD k 0 := ⟨_, rfl⟩
      rw [← hN] at hm hfd hrd hpa
      have hdiv : N.tdiv A = N / A := Int.tdiv_eq_ediv_of_nonneg hm.1
      have hmod : N.tmod A = N % A := Int.tmod_eq_emod_of_nonneg hm.1
      rw [← hfd] at hdiv
      rw [← hrd] at hmod
      obtain ⟨f, hf⟩ : ∃ f, f = flV p E A (k : Nat) := ⟨_, rfl⟩
      simp only [← hf] at hdiv hfl hss hL3 hfd
      obtain ⟨s, hs⟩ : ∃ s, s = rsV p E A (k : Nat) := ⟨_, rfl⟩
      rw [← hs] at hmod hrs hL4 hrd
      obtain ⟨u, hu⟩ : ∃ u, u = sumR k fun i => flV p E A (i : Nat) := ⟨_, rfl⟩
      rw [← hu] at hss hsr ⊢
      obtain ⟨L3, hL3'⟩ : ∃ L, L = flL p E A k := ⟨_, rfl⟩
      obtain ⟨L4, hL4'⟩ : ∃ L, L = rsL p E A k := ⟨_, rfl⟩
      rw [← hL3'] at EE hL3
      rw [← hL4'] at EE hL4
      have ew1 : IntKind.i64.wrap f = f := IntWalk.i64_in _ (by omega)
      have ew2 : IntKind.i64.wrap s = s := IntWalk.i64_in _ (by omega)
      have ew3 : IntKind.i64.wrap (p - u - f) = p - u - f := IntWalk.i64_in _ (by omega)
      have hne : ¬ A = 0 := by omega
      have HSS := hid hss; have HL3 := hid hL3; have HL4 := hid hL4
      have hfd' : N / A = f := hfd.symm
      have hrd' : N % A = s := hrd.symm
      clear hX0 hss hL3 hL4 hL3' hL4' hf hs hu hN hfd hrd hm hfl hrs hsr hp hp9
      go_wp2_with fail
      refine hpa.mono ?_
      rintro e V1 ⟨rfl, hb1⟩
      replace EE := EE.below hb1
      clear hpa hb1 c0 c1 c2
      go_upto_region 7 with fail
      have hbd := (Below.refl V1.heap.size V1).drew
      replace EE := EE.below hbd
      clear hbd
      obtain ⟨S0, o3, o4, hdis, hb, hsz⟩ := EE
      have lt3 := fun r hr => (o3.lt r hr).2
      have lt4 := fun r hr => (o4.lt r hr).2
      refine wp_region_head 12 (fun w' => Bx w' w.heap.size #[.int .i64 p, .slice aS m cS, .slice aO n cO] 25) (by kernel_rfl) rfl ?_
      generalize V1.drew = Y0 at *
      have hg0 : Y0.heap.size ≤ Y0.heap.size := Nat.le_refl _
      obtain ⟨g0, hgg⟩ : ∃ g, g = Y0.heap.size := ⟨_, rfl⟩
      have lt3' : ∀ r, u3.ownBlock = some r → r < g0 := by rw [hgg]; exact lt3
      have lt4' : ∀ r, u4.ownBlock = some r → r < g0 := by rw [hgg]; exact lt4
      have hsz1 : g0 ≤ Y0.heap.size := by omega
      have hwg : w.heap.size + 1 ≤ g0 := by omega
      clear hg0 lt3 lt4 hgg hsz
      refine HeadAt.take (i := 0) (u3) rfl (by kernel_rfl) (.inl ⟨rfl, fun _ _ => by simp [go_sem]⟩) S0 ?_
      (try simp only [Act.put, List.getElem_toArray, List.getElem_cons_succ, List.getElem_cons_zero, List.setIfInBounds_toArray, List.set_cons_succ, List.set_cons_zero])
      refine HeadAt.take (i := 1) (.int .i64 N) rfl (by kernel_rfl) (.inl ⟨rfl, fun _ _ => by simp [go_sem]⟩) S0 ?_
      (try simp only [Act.put, List.getElem_toArray, List.getElem_cons_succ, List.getElem_cons_zero, List.setIfInBounds_toArray, List.set_cons_succ, List.set_cons_zero])
      refine HeadAt.take (i := 2) (.int .i64 A) rfl (by kernel_rfl) (.inl ⟨rfl, fun _ _ => by simp [go_sem]⟩) S0 ?_
      (try simp only [Act.put, List.getElem_toArray, List.getElem_cons_succ, List.getElem_cons_zero, List.setIfInBounds_toArray, List.set_cons_succ, List.set_cons_zero])
      refine HeadAt.take (i := 3) (.int .i64 f) rfl (by kernel_rfl) (.inl ⟨rfl, fun w' z => ?_⟩) S0 ?_
      · (simp [go_sem, hdiv, hfd', ew1, hne])
      (try simp only [Act.put, List.getElem_toArray, List.getElem_cons_succ, List.getElem_cons_zero, List.setIfInBounds_toArray, List.set_cons_succ, List.set_cons_zero])
      refine HeadAt.take (i := 6) (u4) rfl (by kernel_rfl) (.inl ⟨rfl, fun _ _ => by simp [go_sem]⟩) S0 ?_
      (try simp only [Act.put, List.getElem_toArray, List.getElem_cons_succ, List.getElem_cons_zero, List.setIfInBounds_toArray, List.set_cons_succ, List.set_cons_zero])
      refine HeadAt.take (i := 7) (.int .i64 N) rfl (by kernel_rfl) (.inl ⟨rfl, fun _ _ => by simp [go_sem]⟩) S0 ?_
      (try simp only [Act.put, List.getElem_toArray, List.getElem_cons_succ, List.getElem_cons_zero, List.setIfInBounds_toArray, List.set_cons_succ, List.set_cons_zero])
      refine HeadAt.take (i := 8) (.int .i64 A) rfl (by kernel_rfl) (.inl ⟨rfl, fun _ _ => by simp [go_sem]⟩) S0 ?_
      (try simp only [Act.put, List.getElem_toArray, List.getElem_cons_succ, List.getElem_cons_zero, List.setIfInBounds_toArray, List.set_cons_succ, List.set_cons_zero])
      refine HeadAt.take (i := 9) (.int .i64 s) rfl (by kernel_rfl) (.inl ⟨rfl, fun w' z => ?_⟩) S0 ?_
      · (simp [go_sem, hmod, hrd', ew2, hne])
      (try simp only [Act.put, List.getElem_toArray, List.getElem_cons_succ, List.getElem_cons_zero, List.setIfInBounds_toArray, List.set_cons_succ, List.set_cons_zero])
      refine HeadAt.two (i := 4) (j := 10) rfl rfl (by kernel_rfl) ?_ ?_
      · skip
        generalize hK : Upto _ _ = K0
        (try simp only [Act.put, List.getElem_toArray, List.getElem_cons_succ, List.getElem_cons_zero, List.setIfInBounds_toArray, List.set_cons_succ, List.set_cons_zero])
        have hba := below_one (w := Y0) (.cells #[.int .i64 f] 3)
        have HY := hid (And.intro (S0.below hba) (And.intro (own_below2 o3 hba) (And.intro (own_below2 o4 hba) (And.intro (hb.trans (hba.mono hb.size)) (Bx.new Y0 #[.int .i64 f] 3)))))
        have hgf : g0 ≤ Y0.heap.size := hsz1
        have hsz2 : g0 ≤ (Y0.alloc (.cells #[.int .i64 f] 3)).heap.size := Nat.le_trans hsz1 hba.size
        clear hba hsz1 S0 o3 o4 hb
        go_wp2_with fail
        obtain ⟨S0, o3, o4, hb, lf⟩ := HY.out
        clear HY
        have hsz1 := hsz2
        clear hsz2
        generalize Y0.heap.size = gf at *
        generalize Y0.alloc _ = Z1 at *
        subst hK
        refine ⟨S0, ?_⟩
        (try simp only [Act.put, List.getElem_toArray, List.getElem_cons_succ, List.getElem_cons_zero, List.setIfInBounds_toArray, List.set_cons_succ, List.set_cons_zero])
        refine HeadAt.two (i := 5) (j := 10) rfl rfl (by kernel_rfl) ?_ ?_
        · skip
          generalize hK : Upto _ _ = K0
          (try simp only [Act.put, List.getElem_toArray, List.getElem_cons_succ, List.getElem_cons_zero, List.setIfInBounds_toArray, List.set_cons_succ, List.set_cons_zero])
          have hcl := Cls.of_bx lf
          go_wp2_with (at_builtin; refine wpList_appAt rfl _ _ 23 rfl (w.heap.size + 1) 3 j0 _ 1 8 under23 hj jz0 jz1 jz2 rfl (by decide) u3 k (L3.map (Value.int .i64)) rfl o3 (some ⟨gf, 0, none⟩) 1 1 [.int .i64 f] rfl rfl hcl (ints_one [f]) (by unfold maxLen; omega) (by omega) (by omega) ?_; intro q3 Z2 o3' hgr hat3)
          have hge := own_ge2 o3
          have S1 := S0.gb hgr (fun r hr => by have := hge r hr; omega)
          have o4' := own_keep o4 hgr (fun r hr e => hdis r e hr)
          have hb' := hb.grown hgr (by have := hb.size; omega) (fun r hr => by have := hge r hr; omega)
          have hsz2 : g0 ≤ Z2.heap.size := Nat.le_trans hsz1 hgr.size
          have hat : q3.ownBlock = u3.ownBlock ∨ ∃ r, q3.ownBlock = some r ∧ g0 ≤ r := by
            rcases hat3 with h | h
            · exact .inl h
            · exact .inr ⟨_, h, hsz1⟩
          clear S0 o3 o4 hb hsz1 hgr hat3 hge hcl lf
          have o3 := o3'; have o4 := o4'; have hb := hb'; have hsz1 := hsz2
          clear o3' o4' hb' hsz2
          subst hK
          refine ⟨S1, ?_⟩
          have S0 := S1
          clear S1
          (try simp only [Act.put, List.getElem_toArray, List.getElem_cons_succ, List.getElem_cons_zero, List.setIfInBounds_toArray, List.set_cons_succ, List.set_cons_zero])
          refine HeadAt.one (i := 10) rfl (by kernel_rfl) ?_
          generalize hK : Upto _ _ = K0
          (try simp only [Act.put, List.getElem_toArray, List.getElem_cons_succ, List.getElem_cons_zero, List.setIfInBounds_toArray, List.set_cons_succ, List.set_cons_zero])
          have hba := below_one (w := Z2) (.cells #[.int .i64 s] 3)
          have HY := hid (And.intro (S0.below hba) (And.intro (own_below2 o3 hba) (And.intro (own_below2 o4 hba) (And.intro (hb.trans (hba.mono hb.size)) (Bx.new Z2 #[.int .i64 s] 3)))))
          have hgs : g0 ≤ Z2.heap.size := hsz1
          have hsz2 : g0 ≤ (Z2.alloc (.cells #[.int .i64 s] 3)).heap.size := Nat.le_trans hsz1 hba.size
          clear hba hsz1 S0 o3 o4 hb
          go_wp2_with fail
          obtain ⟨S0, o3, o4, hb, ls⟩ := HY.out
          clear HY
          have hsz1 := hsz2
          clear hsz2
          generalize Z2.heap.size = gs at *
          generalize Z2.alloc _ = Z3 at *
          subst hK
          refine ⟨S0, ?_⟩
          (try simp only [Act.put, List.getElem_toArray, List.getElem_cons_succ, List.getElem_cons_zero, List.setIfInBounds_toArray, List.set_cons_succ, List.set_cons_zero])
          refine HeadAt.one (i := 11) rfl (by kernel_rfl) ?_
          generalize hK : Upto _ _ = K0
          (try simp only [Act.put, List.getElem_toArray, List.getElem_cons_succ, List.getElem_cons_zero, List.setIfInBounds_toArray, List.set_cons_succ, List.set_cons_zero])
          have hcl := Cls.of_bx ls
          go_wp2_with (at_builtin; refine wpList_appAt rfl _ _ 23 rfl (w.heap.size + 1) 3 j0 _ 1 8 under23 hj jz0 jz1 jz2 rfl (by decide) u4 k (L4.map (Value.int .i64)) rfl o4 (some ⟨gs, 0, none⟩) 1 1 [.int .i64 s] rfl rfl hcl (ints_one [s]) (by unfold maxLen; omega) (by omega) (by omega) ?_; intro q4 Z4 o4' hgr hat4)
          have hge := own_ge2 o4
          have S1 := S0.gb hgr (fun r hr => by have := hge r hr; omega)
          have hne3 : ∀ r, q3.ownBlock = some r → u4.ownBlock ≠ some r := fun r hr e => by
            rcases hat with h | ⟨r', h1, h2⟩
            · exact hdis r (h ▸ hr) e
            · rw [hr] at h1; cases h1
              have := lt4' _ e; omega
          have hdis' : ∀ r, q3.ownBlock = some r → q4.ownBlock ≠ some r := fun r hr e => by
            rcases hat4 with h | h
            · exact hne3 r hr (h ▸ e)
            · rw [e] at h; cases h
              have := (o3.lt _ hr).2; omega
          have o3' := own_keep o3 hgr (fun r hr e => hne3 r hr e)
          have hb' := hb.grown hgr (by have := hb.size; omega) (fun r hr => by have := hge r hr; omega)
          have hsz2 : g0 ≤ Z4.heap.size := Nat.le_trans hsz1 hgr.size
          rw [show L3.map (Value.int .i64) ++ [Value.int .i64 f] = (flL p E A (k + 1)).map (Value.int .i64) by rw [HL3.out, List.map_append]; rfl] at o3'
          rw [show L4.map (Value.int .i64) ++ [Value.int .i64 s] = (rsL p E A (k + 1)).map (Value.int .i64) by rw [HL4.out, List.map_append]; rfl] at o4'
          have HE := hid (show SoW w #[.int .i64 p, .slice aS m cS, .slice aO n cO] q3 q4 (k + 1) (flL p E A (k + 1)) (rsL p E A (k + 1)) Z4 from ⟨S1, o3', o4', hdis', hb', by omega⟩)
          clear S0 o3 o4 hb hsz1 hgr hat4 hge hcl ls o3' o4' hb' hsz2 hdis hdis' hne3 hat
          subst hK
          refine ⟨S1, ?_⟩
          clear S1
          (try simp only [Act.put, List.getElem_toArray, List.getElem_cons_succ, List.getElem_cons_zero, List.setIfInBounds_toArray, List.set_cons_succ, List.set_cons_zero])
          refine HeadAt.done (by kernel_rfl) ?_
          (try simp only [Act.put, List.drop_succ_cons, List.drop_zero, List.getElem_toArray, List.getElem_cons_succ, List.getElem_cons_zero])
          go_wp2_with fail
          refine NoPanic.normal ?_
          go_wp2
          go_roundw
          case rel => exact ⟨k + 1, by omega, by simp, by rw [HSS.out, show p - (u + f) = p - u - f by omega], HE.out⟩
          case measure => simp [intOf]; omega
        · skip
          generalize hK : Upto _ _ = K0
          (try simp only [Act.put, List.getElem_toArray, List.getElem_cons_succ, List.getElem_cons_zero, List.setIfInBounds_toArray, List.set_cons_succ, List.set_cons_zero])
          have hba := below_one (w := Z1) (.cells #[.int .i64 s] 3)
          have HY := hid (And.intro (S0.below hba) (And.intro (own_below2 o3 hba) (And.intro (own_below2 o4 hba) (And.intro (hb.trans (hba.mono hb.size)) (And.intro (Bx.new Z1 #[.int .i64 s] 3) (lf.below hba))))))
          have hgs : g0 ≤ Z1.heap.size := hsz1
          have hsz2 : g0 ≤ (Z1.alloc (.cells #[.int .i64 s] 3)).heap.size := Nat.le_trans hsz1 hba.size
          clear hba hsz1 S0 o3 o4 hb lf
          go_wp2_with fail
          obtain ⟨S0, o3, o4, hb, ls, lf⟩ := HY.out
          clear HY
          have hsz1 := hsz2
          clear hsz2
          generalize Z1.heap.size = gs at *
          generalize Z1.alloc _ = Z2 at *
          subst hK
          refine ⟨S0, ?_⟩
          (try simp only [Act.put, List.getElem_toArray, List.getElem_cons_succ, List.getElem_cons_zero, List.setIfInBounds_toArray, List.set_cons_succ, List.set_cons_zero])
          refine HeadAt.one (i := 5) rfl (by kernel_rfl) ?_
          generalize hK : Upto _ _ = K0
          (try simp only [Act.put, List.getElem_toArray, List.getElem_cons_succ, List.getElem_cons_zero, List.setIfInBounds_toArray, List.set_cons_succ, List.set_cons_zero])
          have hcl := Cls.of_bx lf
          go_wp2_with (at_builtin; refine wpList_appAt rfl _ _ 23 rfl (w.heap.size + 1) 3 j0 _ 1 8 under23 hj jz0 jz1 jz2 rfl (by decide) u3 k (L3.map (Value.int .i64)) rfl o3 (some ⟨gf, 0, none⟩) 1 1 [.int .i64 f] rfl rfl hcl (ints_one [f]) (by unfold maxLen; omega) (by omega) (by omega) ?_; intro q3 Z3 o3' hgr hat3)
          have hge := own_ge2 o3
          have S1 := S0.gb hgr (fun r hr => by have := hge r hr; omega)
          have o4' := own_keep o4 hgr (fun r hr e => hdis r e hr)
          have hb' := hb.grown hgr (by have := hb.size; omega) (fun r hr => by have := hge r hr; omega)
          have lo' := ls.gb hgr (fun r hr e => by have := lt3' r hr; omega)
          have hsz2 : g0 ≤ Z3.heap.size := Nat.le_trans hsz1 hgr.size
          have hat : q3.ownBlock = u3.ownBlock ∨ ∃ r, q3.ownBlock = some r ∧ g0 ≤ r := by
            rcases hat3 with h | h
            · exact .inl h
            · exact .inr ⟨_, h, hsz1⟩
          clear S0 o3 o4 hb hsz1 hgr hat3 hge hcl lf ls
          have ls := lo'
          clear lo'
          have o3 := o3'; have o4 := o4'; have hb := hb'; have hsz1 := hsz2
          clear o3' o4' hb' hsz2
          subst hK
          refine ⟨S1, ?_⟩
          have S0 := S1
          clear S1
          (try simp only [Act.put, List.getElem_toArray, List.getElem_cons_succ, List.getElem_cons_zero, List.setIfInBounds_toArray, List.set_cons_succ, List.set_cons_zero])
          refine HeadAt.one (i := 11) rfl (by kernel_rfl) ?_
          generalize hK : Upto _ _ = K0
          (try simp only [Act.put, List.getElem_toArray, List.getElem_cons_succ, List.getElem_cons_zero, List.setIfInBounds_toArray, List.set_cons_succ, List.set_cons_zero])
          have hcl := Cls.of_bx ls
          go_wp2_with (at_builtin; refine wpList_appAt rfl _ _ 23 rfl (w.heap.size + 1) 3 j0 _ 1 8 under23 hj jz0 jz1 jz2 rfl (by decide) u4 k (L4.map (Value.int .i64)) rfl o4 (some ⟨gs, 0, none⟩) 1 1 [.int .i64 s] rfl rfl hcl (ints_one [s]) (by unfold maxLen; omega) (by omega) (by omega) ?_; intro q4 Z4 o4' hgr hat4)
          have hge := own_ge2 o4
          have S1 := S0.gb hgr (fun r hr => by have := hge r hr; omega)
          have hne3 : ∀ r, q3.ownBlock = some r → u4.ownBlock ≠ some r := fun r hr e => by
            rcases hat with h | ⟨r', h1, h2⟩
            · exact hdis r (h ▸ hr) e
            · rw [hr] at h1; cases h1
              have := lt4' _ e; omega
          have hdis' : ∀ r, q3.ownBlock = some r → q4.ownBlock ≠ some r := fun r hr e => by
            rcases hat4 with h | h
            · exact hne3 r hr (h ▸ e)
            · rw [e] at h; cases h
              have := (o3.lt _ hr).2; omega
          have o3' := own_keep o3 hgr (fun r hr e => hne3 r hr e)
          have hb' := hb.grown hgr (by have := hb.size; omega) (fun r hr => by have := hge r hr; omega)
          have hsz2 : g0 ≤ Z4.heap.size := Nat.le_trans hsz1 hgr.size
          rw [show L3.map (Value.int .i64) ++ [Value.int .i64 f] = (flL p E A (k + 1)).map (Value.int .i64) by rw [HL3.out, List.map_append]; rfl] at o3'
          rw [show L4.map (Value.int .i64) ++ [Value.int .i64 s] = (rsL p E A (k + 1)).map (Value.int .i64) by rw [HL4.out, List.map_append]; rfl] at o4'
          have HE := hid (show SoW w #[.int .i64 p, .slice aS m cS, .slice aO n cO] q3 q4 (k + 1) (flL p E A (k + 1)) (rsL p E A (k + 1)) Z4 from ⟨S1, o3', o4', hdis', hb', by omega⟩)
          clear S0 o3 o4 hb hsz1 hgr hat4 hge hcl ls o3' o4' hb' hsz2 hdis hdis' hne3 hat
          subst hK
          refine ⟨S1, ?_⟩
          clear S1
          (try simp only [Act.put, List.getElem_toArray, List.getElem_cons_succ, List.getElem_cons_zero, List.setIfInBounds_toArray, List.set_cons_succ, List.set_cons_zero])
          refine HeadAt.done (by kernel_rfl) ?_
          (try simp only [Act.put, List.drop_succ_cons, List.drop_zero, List.getElem_toArray, List.getElem_cons_succ, List.getElem_cons_zero])
          go_wp2_with fail
          refine NoPanic.normal ?_
          go_wp2
          go_roundw
          case rel => exact ⟨k + 1, by omega, by simp, by rw [HSS.out, show p - (u + f) = p - u - f by omega], HE.out⟩
          case measure => simp [intOf]; omega
      · skip
        generalize hK : Upto _ _ = K0
        (try simp only [Act.put, List.getElem_toArray, List.getElem_cons_succ, List.getElem_cons_zero, List.setIfInBounds_toArray, List.set_cons_succ, List.set_cons_zero])
        have hba := below_one (w := Y0) (.cells #[.int .i64 s] 3)
        have HY := hid (And.intro (S0.below hba) (And.intro (own_below2 o3 hba) (And.intro (own_below2 o4 hba) (And.intro (hb.trans (hba.mono hb.size)) (Bx.new Y0 #[.int .i64 s] 3)))))
        have hgs : g0 ≤ Y0.heap.size := hsz1
        have hsz2 : g0 ≤ (Y0.alloc (.cells #[.int .i64 s] 3)).heap.size := Nat.le_trans hsz1 hba.size
        clear hba hsz1 S0 o3 o4 hb
        go_wp2_with fail
        obtain ⟨S0, o3, o4, hb, ls⟩ := HY.out
        clear HY
        have hsz1 := hsz2
        clear hsz2
        generalize Y0.heap.size = gs at *
        generalize Y0.alloc _ = Z1 at *
        subst hK
        refine ⟨S0, ?_⟩
        (try simp only [Act.put, List.getElem_toArray, List.getElem_cons_succ, List.getElem_cons_zero, List.setIfInBounds_toArray, List.set_cons_succ, List.set_cons_zero])
        refine HeadAt.one (i := 4) rfl (by kernel_rfl) ?_
        generalize hK : Upto _ _ = K0
        (try simp only [Act.put, List.getElem_toArray, List.getElem_cons_succ, List.getElem_cons_zero, List.setIfInBounds_toArray, List.set_cons_succ, List.set_cons_zero])
        have hba := below_one (w := Z1) (.cells #[.int .i64 f] 3)
        have HY := hid (And.intro (S0.below hba) (And.intro (own_below2 o3 hba) (And.intro (own_below2 o4 hba) (And.intro (hb.trans (hba.mono hb.size)) (And.intro (Bx.new Z1 #[.int .i64 f] 3) (ls.below hba))))))
        have hgf : g0 ≤ Z1.heap.size := hsz1
        have hsz2 : g0 ≤ (Z1.alloc (.cells #[.int .i64 f] 3)).heap.size := Nat.le_trans hsz1 hba.size
        clear hba hsz1 S0 o3 o4 hb ls
        go_wp2_with fail
        obtain ⟨S0, o3, o4, hb, lf, ls⟩ := HY.out
        clear HY
        have hsz1 := hsz2
        clear hsz2
        generalize Z1.heap.size = gf at *
        generalize Z1.alloc _ = Z2 at *
        subst hK
        refine ⟨S0, ?_⟩
        (try simp only [Act.put, List.getElem_toArray, List.getElem_cons_succ, List.getElem_cons_zero, List.setIfInBounds_toArray, List.set_cons_succ, List.set_cons_zero])
        refine HeadAt.one (i := 5) rfl (by kernel_rfl) ?_
        generalize hK : Upto _ _ = K0
        (try simp only [Act.put, List.getElem_toArray, List.getElem_cons_succ, List.getElem_cons_zero, List.setIfInBounds_toArray, List.set_cons_succ, List.set_cons_zero])
        have hcl := Cls.of_bx lf
        go_wp2_with (at_builtin; refine wpList_appAt rfl _ _ 23 rfl (w.heap.size + 1) 3 j0 _ 1 8 under23 hj jz0 jz1 jz2 rfl (by decide) u3 k (L3.map (Value.int .i64)) rfl o3 (some ⟨gf, 0, none⟩) 1 1 [.int .i64 f] rfl rfl hcl (ints_one [f]) (by unfold maxLen; omega) (by omega) (by omega) ?_; intro q3 Z3 o3' hgr hat3)
        have hge := own_ge2 o3
        have S1 := S0.gb hgr (fun r hr => by have := hge r hr; omega)
        have o4' := own_keep o4 hgr (fun r hr e => hdis r e hr)
        have hb' := hb.grown hgr (by have := hb.size; omega) (fun r hr => by have := hge r hr; omega)
        have lo' := ls.gb hgr (fun r hr e => by have := lt3' r hr; omega)
        have hsz2 : g0 ≤ Z3.heap.size := Nat.le_trans hsz1 hgr.size
        have hat : q3.ownBlock = u3.ownBlock ∨ ∃ r, q3.ownBlock = some r ∧ g0 ≤ r := by
          rcases hat3 with h | h
          · exact .inl h
          · exact .inr ⟨_, h, hsz1⟩
        clear S0 o3 o4 hb hsz1 hgr hat3 hge hcl lf ls
        have ls := lo'
        clear lo'
        have o3 := o3'; have o4 := o4'; have hb := hb'; have hsz1 := hsz2
        clear o3' o4' hb' hsz2
        subst hK
        refine ⟨S1, ?_⟩
        have S0 := S1
        clear S1
        (try simp only [Act.put, List.getElem_toArray, List.getElem_cons_succ, List.getElem_cons_zero, List.setIfInBounds_toArray, List.set_cons_succ, List.set_cons_zero])
        refine HeadAt.one (i := 11) rfl (by kernel_rfl) ?_
        generalize hK : Upto _ _ = K0
        (try simp only [Act.put, List.getElem_toArray, List.getElem_cons_succ, List.getElem_cons_zero, List.setIfInBounds_toArray, List.set_cons_succ, List.set_cons_zero])
        have hcl := Cls.of_bx ls
        go_wp2_with (at_builtin; refine wpList_appAt rfl _ _ 23 rfl (w.heap.size + 1) 3 j0 _ 1 8 under23 hj jz0 jz1 jz2 rfl (by decide) u4 k (L4.map (Value.int .i64)) rfl o4 (some ⟨gs, 0, none⟩) 1 1 [.int .i64 s] rfl rfl hcl (ints_one [s]) (by unfold maxLen; omega) (by omega) (by omega) ?_; intro q4 Z4 o4' hgr hat4)
        have hge := own_ge2 o4
        have S1 := S0.gb hgr (fun r hr => by have := hge r hr; omega)
        have hne3 : ∀ r, q3.ownBlock = some r → u4.ownBlock ≠ some r := fun r hr e => by
          rcases hat with h | ⟨r', h1, h2⟩
          · exact hdis r (h ▸ hr) e
          · rw [hr] at h1; cases h1
            have := lt4' _ e; omega
        have hdis' : ∀ r, q3.ownBlock = some r → q4.ownBlock ≠ some r := fun r hr e => by
          rcases hat4 with h | h
          · exact hne3 r hr (h ▸ e)
          · rw [e] at h; cases h
            have := (o3.lt _ hr).2; omega
        have o3' := own_keep o3 hgr (fun r hr e => hne3 r hr e)
        have hb' := hb.grown hgr (by have := hb.size; omega) (fun r hr => by have := hge r hr; omega)
        have hsz2 : g0 ≤ Z4.heap.size := Nat.le_trans hsz1 hgr.size
        rw [show L3.map (Value.int .i64) ++ [Value.int .i64 f] = (flL p E A (k + 1)).map (Value.int .i64) by rw [HL3.out, List.map_append]; rfl] at o3'
        rw [show L4.map (Value.int .i64) ++ [Value.int .i64 s] = (rsL p E A (k + 1)).map (Value.int .i64) by rw [HL4.out, List.map_append]; rfl] at o4'
        have HE := hid (show SoW w #[.int .i64 p, .slice aS m cS, .slice aO n cO] q3 q4 (k + 1) (flL p E A (k + 1)) (rsL p E A (k + 1)) Z4 from ⟨S1, o3', o4', hdis', hb', by omega⟩)
        clear S0 o3 o4 hb hsz1 hgr hat4 hge hcl ls o3' o4' hb' hsz2 hdis hdis' hne3 hat
        subst hK
        refine ⟨S1, ?_⟩
        clear S1
        (try simp only [Act.put, List.getElem_toArray, List.getElem_cons_succ, List.getElem_cons_zero, List.setIfInBounds_toArray, List.set_cons_succ, List.set_cons_zero])
        refine HeadAt.done (by kernel_rfl) ?_
        (try simp only [Act.put, List.drop_succ_cons, List.drop_zero, List.getElem_toArray, List.getElem_cons_succ, List.getElem_cons_zero])
        go_wp2_with fail
        refine NoPanic.normal ?_
        go_wp2
        go_roundw
        case rel => exact ⟨k + 1, by omega, by simp, by rw [HSS.out, show p - (u + f) = p - u - f by omega], HE.out⟩
        case measure => simp [intOf]; omega
    · have hkn : k = n := by omega
      subst hkn
      have hkI : ¬ (k : Int) < (k : Int) := by omega
      have hl := left_n hQ.toCOk
      have hle : p - sumR k (fun i => flV p E A (i : Nat)) = leftV p E A k := rfl
      rw [hle]
      obtain ⟨lk, hlk⟩ : ∃ lk : Nat, (lk : Int) = leftV p E A k := ⟨(leftV p E A k).toNat, by omega⟩
      have hend2 := hend lk hlk
      rw [← hlk] at hl ⊢
      have hlk2 : (lk : Int) ≤ (k : Int) := hl.2
      obtain ⟨S0, o3, o4, hdis, hb, hsz⟩ := EE
      obtain ⟨g3, d3, rfl⟩ := Go.Joins.ownsRow_form o3 hn0
      obtain ⟨g4, d4, rfl⟩ := Go.Joins.ownsRow_form o4 hn0
      have hg34 : g3 ≠ g4 := fun e => hdis g3 (by simp [Value.ownBlock]) (by simp [Value.ownBlock, e])
      have hg3 : w.heap.size + 1 ≤ g3 := own_ge2 o3 g3 (by simp [Value.ownBlock])
      have hg4 : w.heap.size + 1 ≤ g4 := own_ge2 o4 g4 (by simp [Value.ownBlock])
      rw [← shK_zero p E A k Wo] at o3
      rw [← rsK_zero p E A k Wo] at o4
      have HEND := hid hend2; have HO := hid hO
      have HBO := hid (fun (j x : Nat) (h : Wo[j]? = some (x : Int)) (hx : x < k) => bst_ord hQ.toCOk hO h hx)
      have HFL := hid (fun i (hi : i < k) => flV_le hQ hi)
      have hol := hO.len
      clear hX0 S0 hle hlk hend hend2 hdis hO hQ hpt2 hXS hl hsz
      go_wp2
      clear c0 c1 c2
      go_loopw [5] (fun u5 wr => ∃ j : Nat, j ≤ lk ∧ u5 = .int .i64 ((lk : Int) - j) ∧ wr.ownsRow (w.heap.size + 1) 3 1 (.slice (some ⟨g3, 0, none⟩) k d3) k ((shK p E A k Wo j).map (Value.int .i64)) ∧ wr.ownsRow (w.heap.size + 1) 3 1 (.slice (some ⟨g4, 0, none⟩) k d4) k ((rsK p E A k Wo j).map (Value.int .i64)) ∧ Below w.heap.size w wr) (fun u5 _ => (intOf u5).toNat)
      case atStart => exact ⟨0, Nat.zero_le _, by simp, o3, o4, hb⟩
      case round =>
        clear o3 o4 hb
        obtain ⟨j, hj, rfl, o3, o4, hb⟩ := hrel
        generalize wr = wo at *
        by_cases hltj : j < lk
        · have hjl : j < Wo.length := by omega
          have hrg := HO.out.rng Wo[j] (List.getElem_mem hjl)
          obtain ⟨x, hx⟩ := Int.eq_ofNat_of_zero_le hrg.1
          have hxg : Wo[j]? = some (x : Int) := by rw [List.getElem?_eq_getElem hjl, hx]
          obtain ⟨hxn, hgx, hset⟩ := shK_succ HO.out hxg
          have hset4 := rsK_set HO.out hxg hxn
          have hbst := HBO.out j x hxg hxn
          have hfl := HFL.out x hxn
          obtain ⟨f, hf⟩ : ∃ f, f = flV p E A (x : Nat) := ⟨_, rfl⟩
          rw [← hf] at hgx hset hfl
          have ew : IntKind.i64.wrap (f + 1) = f + 1 := IntWalk.i64_in _ (by omega)
          have ewl : IntKind.i64.wrap ((lk : Int) - j - 1) = (lk : Int) - j - 1 := IntWalk.i64_in _ (by omega)
          have hpos : (0 : Int) < (lk : Int) - j := by omega
          have hxI : (x : Int) < (k : Int) := by omega
          have hx0 : (0 : Int) ≤ (x : Int) := by omega
          obtain ⟨R, hR⟩ : ∃ R, R = rsK p E A k Wo j := ⟨_, rfl⟩
          rw [← hR] at o4 hset4 hbst
          have hRl : R.length = k := by rw [hR, rsK_len]
          have HST := hid (And.intro hset hset4); have HB := hid hbst; have HG := hid hgx; have HRL := hid hRl
          clear hset hset4 hbst hgx hRl hR hf hxg hx hrg hfl
          go_wp2
          go_loopw [9, 10] (fun u9 u10 wr => ∃ i : Nat, i ≤ k ∧ u10 = .int .i64 (i : Int) ∧ u9 = .int .i64 ((bstF R i : Nat) : Int) ∧ Below wo.heap.size wo wr) (fun _ u10 _ => k - (intOf u10).toNat)
          case atStart => exact ⟨0, Nat.zero_le _, rfl, rfl, Below.refl _ _⟩
          case round =>
            obtain ⟨i, hi, rfl, rfl, hbi⟩ := hrel
            have p4 := own_below2 o4 hbi
            by_cases hlti : i < k
            · have hiI : (i : Int) < (k : Int) := by omega
              have hi0 : (0 : Int) ≤ (i : Int) := by omega
              have hbl : bstF R i < k := by
                rcases Nat.eq_zero_or_pos i with rfl | h
                · exact hn0
                · have := bstF_lt R i h; omega
              have hsuc := bstF_succ R i
              obtain ⟨b, hb'⟩ : ∃ b, b = bstF R i := ⟨_, rfl⟩
              rw [← hb'] at hsuc hbl ⊢
              have q1 := own_cell p4 i (v := .int .i64 (R.getD i 0)) (by rw [List.getElem?_map, get_of_lt 0 (by rw [HRL.out]; exact hlti)]; rfl)
              have q2 := own_cell p4 b (v := .int .i64 (R.getD b 0)) (by rw [List.getElem?_map, get_of_lt 0 (by rw [HRL.out]; exact hbl)]; rfl)
              obtain ⟨xi, hxi⟩ : ∃ y, y = R.getD i 0 := ⟨_, rfl⟩
              obtain ⟨xb, hxb⟩ : ∃ y, y = R.getD b 0 := ⟨_, rfl⟩
              rw [← hxi] at q1 hsuc
              rw [← hxb] at q2 hsuc
              have hbI : (b : Int) < (k : Int) := by omega
              have hb0 : (0 : Int) ≤ (b : Int) := by omega
              clear hxi hxb hb' p4
              by_cases hgt : xb < xi
              · rw [if_pos hgt] at hsuc
                have HS := hid hsuc
                clear hsuc
                go_upto_region 15 with fail
                have e1 := Ext.cell q1; have e2 := Ext.cell q2
                clear q1 q2
                refine wp_region_ext_lit (by kernel_rfl) (by kernel_rfl) ?_
                repeat (quiet_step (fail))
                refine wpQuiet_nil ?_
                intro _ hw'
                obtain ⟨tt, rfl⟩ := hw'
                have hb4 := hbi.trans (tt.below.mono hbi.size)
                clear e1 e2
                go_wp2
                go_roundw
                case rel => exact ⟨i + 1, by omega, by simp, by rw [HS.out], hb4⟩
                case measure => simp [intOf]; omega
              · rw [if_neg hgt] at hsuc
                have HS := hid hsuc
                clear hsuc
                go_upto_region 15 with fail
                have e1 := Ext.cell q1; have e2 := Ext.cell q2
                clear q1 q2
                refine wp_region_ext_lit (by kernel_rfl) (by kernel_rfl) ?_
                repeat (quiet_step (fail))
                refine wpQuiet_nil ?_
                intro _ hw'
                obtain ⟨tt, rfl⟩ := hw'
                have hb4 := hbi.trans (tt.below.mono hbi.size)
                clear e1 e2
                go_wp2
                go_roundw
                case rel => exact ⟨i + 1, by omega, by simp, by rw [HS.out], hb4⟩
                case measure => simp [intOf]; omega
            · have hik : i = k := by omega
              have hiI : ¬ (i : Int) < (k : Int) := by omega
              rw [hik, HB.out]
              have p3 := own_below2 o3 hbi
              have q0 := own_cell p3 x (v := .int .i64 f) (by rw [List.getElem?_map, HG.out]; rfl)
              have fr3 := own_free p3 x
              have hne3 : ∀ r, (Value.slice (some ⟨g3, 0, none⟩) k d3).ownBlock = some r → some g4 ≠ some r := fun r hr e => by
                simp [Value.ownBlock] at hr e; omega
              have hne4 : ∀ r, (Value.slice (some ⟨g4, 0, none⟩) k d4).ownBlock = some r → some g3 ≠ some r := fun r hr e => by
                simp [Value.ownBlock] at hr e; omega
              have z3 := own_set p3 (j := x) (v := .int .i64 (f + 1)) (by omega)
              have z4 := own_keep p4 (gsetR wr ⟨g3, x, none⟩ (.int .i64 (f + 1))) hne4
              have fr4 := own_free z4 x
              have q4 := own_cell z4 x (v := .int .i64 (R.getD x 0)) (by rw [List.getElem?_map, get_of_lt 0 (by rw [HRL.out]; exact hxn)]; rfl)
              obtain ⟨xr, hxr⟩ : ∃ y, y = R.getD x 0 := ⟨_, rfl⟩
              rw [← hxr] at q4
              clear hxr
              have y3 := own_keep z3 (gsetR _ ⟨g4, x, none⟩ (.int .i64 (-1))) hne3
              have y4 := own_set z4 (j := x) (v := .int .i64 (-1)) (by omega)
              have yb := (((hb.trans (hbi.mono hb.size)).setCell (p := ⟨g3, x, none⟩) (by show w.heap.size ≤ g3; omega) (.int .i64 (f + 1))).setCell (p := ⟨g4, x, none⟩) (by show w.heap.size ≤ g4; omega) (.int .i64 (-1)))
              rw [← List.map_set, HST.out.1] at y3
              rw [← List.map_set, HST.out.2] at y4
              have HZ := hid (And.intro y3 (And.intro y4 yb))
              clear p3 p4 z3 z4 y3 y4 yb o3 o4 hb hbi hne3 hne4 hik
              go_wp2
              go_roundw
              case rel => exact ⟨j + 1, by omega, by (congr 1; omega), HZ.out⟩
              case measure => simp [intOf]; omega
        · have hjl : j = lk := by omega
          have hpos : ¬ (0 : Int) < (lk : Int) - j := by omega
          rw [hjl, HEND.out] at o3
          have HZ := hid (And.intro (own_base o3 (Nat.le_succ w.heap.size)) hb)
          clear o3 o4 hb
          go_wp2
          go_ret
          exact ⟨g3, d3, rfl, HZ.out⟩
end Go.Proofs.Ytakodllejndfeaa
