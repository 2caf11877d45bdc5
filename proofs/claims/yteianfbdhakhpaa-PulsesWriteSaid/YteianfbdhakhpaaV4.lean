import Derived.Test.YteianfbdhakhpaaTC
import Derived.Test.YteianfbdhakhpaaT6
/-! The specification's sets. -/
namespace Go.Proofs.Yteianfbdhakhpaa
set_option linter.unusedSimpArgs false
set_option linter.unusedVariables false
open Go Go.RowKit
theorem own_litN (w : World) (e : TypeId) (v : Value) : (w.alloc (.cells #[v] e)).ownsRow w.heap.size e 1 (.slice (some ⟨w.heap.size, 0, none⟩) 1 1) 1 [v] := by
  refine ⟨rfl, .inr ⟨w.heap.size, 1, #[v], rfl, Nat.le_refl _, ?_, Nat.le_refl _, by unfold maxLen; omega, rfl, rfl⟩⟩
  exact Bx.new w #[v] e
/-- Values that read as lists. -/
def LzS (B : Nat) (w : World) (vs : List Value) (LL : List (List Int)) : Prop :=
  vs.length = LL.length ∧ ∀ (i : Nat) (l : List Int), LL[i]? = some l → ∃ (a : Option Addr) (c : Nat), vs[i]? = some (.slice a l.length c) ∧ Iz B w a l
theorem LzS.map {B B' : Nat} {w w' : World} {vs : List Value} {LL : List (List Int)} (h : LzS B w vs LL) (hf : ∀ a L, Iz B w a L → Iz B' w' a L) : LzS B' w' vs LL :=
  ⟨h.1, fun i l hi => by
    obtain ⟨a, c, h1, h2⟩ := h.2 i l hi
    exact ⟨a, c, h1, hf _ _ h2⟩⟩
theorem LzS.app {B : Nat} {w : World} {vs us : List Value} {LL MM : List (List Int)} (h : LzS B w vs LL) (k : LzS B w us MM) : LzS B w (vs ++ us) (LL ++ MM) :=
  ⟨by rw [List.length_append, List.length_append, h.1, k.1], fun i l hi => by
    by_cases hl : i < LL.length
    · rw [List.getElem?_append_left hl] at hi
      obtain ⟨a, c, h1, h2⟩ := h.2 i l hi
      exact ⟨a, c, by rw [List.getElem?_append_left (by rw [h.1]; exact hl)]; exact h1, h2⟩
    · rw [List.getElem?_append_right (by omega)] at hi
      obtain ⟨a, c, h1, h2⟩ := k.2 _ l hi
      exact ⟨a, c, by rw [List.getElem?_append_right (by rw [h.1]; omega), h.1]; exact h1, h2⟩⟩
theorem LzS.single {B : Nat} {w : World} {a : Option Addr} {c : Nat} {l : List Int} (h : Iz B w a l) : LzS B w [.slice a l.length c] [l] :=
  ⟨rfl, fun i l' hi => by
    cases i with
    | zero => cases hi; exact ⟨a, c, rfl, h⟩
    | succ i => simp at hi⟩
theorem LzS.one {B : Nat} {w : World} {vs : List Value} {LL : List (List Int)} (h : LzS B w vs LL) : ∀ u ∈ vs, u.oneCell' = true := fun u hu => by
  obtain ⟨i, hi, rfl⟩ := List.getElem_of_mem hu
  have hi2 : i < LL.length := by rw [← h.1]; exact hi
  obtain ⟨a, c, h1, _⟩ := h.2 i LL[i] (List.getElem?_eq_getElem hi2)
  rw [List.getElem?_eq_getElem hi] at h1
  rw [Option.some.inj h1]; rfl
/-- What sets hands back. -/
def LLP (B : Nat) (LL : List (List Int)) (w : World) (e : Ending) (w' : World) : Prop :=
  Below w.heap.size w w' ∧ ∃ (a : Option Addr) (c : Nat) (vs : List Value), e = .returned (.slice a LL.length c) ∧ w'.ownsRow w.heap.size 22 1 (.slice a LL.length c) LL.length vs ∧ LzS B w' vs LL
set_option maxRecDepth 100000 in
set_option maxHeartbeats 8000000 in
theorem rsets_any (e : Nat) (he : e ≤ 24) (B : Nat) : ∀ (m : Nat), m ≤ 3 → ∀ (f : List Int) (aF : Option Addr) (cF low : Nat) (w : World), B ≤ w.heap.size → Iz B w aF f → low ≤ e → f.length + m ≤ 100 →
    Calls Try.prog 85 #[.slice aF f.length cF, .int .i64 (low : Int), .int .i64 (e : Int), .int .i64 (m : Int)] w (LLP B (setsG e m low f) w) := by
  intro m
  induction m with
  | zero =>
    intro _ f aF cF low w hB hF hlow hfl
    have hs1 := LzS.single (c := cF) (hF.below (below_one (w := w) (.cells #[.slice aF f.length cF] 22)))
    have ho := own_litN w 22 (.slice aF f.length cF)
    have hb := below_one (w := w) (.cells #[.slice aF f.length cF] 22)
    have HZ := hid (show LLP B (setsG e 0 low f) w (.returned (.slice (some ⟨w.heap.size, 0, none⟩) 1 1)) (w.alloc (.cells #[.slice aF f.length cF] 22)) from ⟨hb, _, _, _, rfl, ho, hs1⟩)
    clear hs1 ho hb
    generalize setsG e 0 low f = LL at *
    generalize f.length = nf at *
    go_enter Try.func85, Try.ntmps85
    go_wp2
    go_loopw [9, 10] (fun v9 v10 wr => v9 = .slice (some ⟨w.heap.size, 0, none⟩) 1 1 ∧ v10 = .int .i64 (low : Int) ∧ wr = w.alloc (.cells #[.slice aF nf cF] 22)) (fun _ _ _ => 1)
    case atStart => exact ⟨rfl, rfl, rfl⟩
    case round =>
      obtain ⟨rfl, rfl, rfl⟩ := hrel
      by_cases hle : low < e
      · have h1 : (low : Int) < (e : Int) := by omega
        go_wp2
        go_ret
        exact HZ.out
      · have h1 : ¬ (low : Int) < (e : Int) := by omega
        go_wp2
        go_ret
        exact HZ.out
  | succ m IH =>
    intro hm f aF cF low w hB hF hlow hfl
    obtain ⟨i0, hi0, iz0, iz1, iz2⟩ := info_parts info3i
    obtain ⟨j0, hj0, jz0, jz1, jz2⟩ := info_parts info22
    have IH := IH (by omega)
    have HTL := hid (show (setsG e (m + 1) low f).length ≤ 15625 from Nat.le_trans (setsG_len _ _ _ _) (Nat.le_trans (Nat.pow_le_pow_left (show e + 1 ≤ 25 by omega) _) (Nat.le_trans (Nat.pow_le_pow_right (by omega) hm) (by decide))))
    have HS := hid (setsG_succ e m low f)
    have HSP := hid (show ∀ k, low ≤ k → k < e → ∃ post, setsN e m low f e = _ from fun k h1 h2 => setsN_split (m := m) (f := f) h1 h2)
    have HNX := hid (show ∀ k, low ≤ k → setsN e m low f (k + 1) = _ from fun k h1 => setsN_next (e := e) (m := m) (f := f) h1)
    have HZ0 := hid (setsN_zero e m low f)
    have HIH := hid IH
    generalize hT : setsG e (m + 1) low f = T at *
    obtain ⟨M, hM⟩ : ∃ M, M = m + 1 := ⟨_, rfl⟩
    rw [← hM] at hm hfl ⊢
    have hM1 : M ≤ m + 1 := by omega
    have hM2 : m + 1 ≤ M := by omega
    clear hM
    generalize hSN : setsN e m low f = SN at *
    clear hT hSN IH
    obtain ⟨nf, hnf⟩ : ∃ nf, nf = f.length := ⟨_, rfl⟩
    have HNF := hid hnf
    rw [← hnf] at hfl ⊢
    clear hnf
    have hsz0 := below_one (w := w) (.cells #[.slice aF nf cF] 22)
    have hown0 := own_litN w 22 (.slice aF nf cF)
    have hrw0 : LzS B (w.alloc (.cells #[.slice aF nf cF] 22)) [.slice aF nf cF] [f] := by
      have := LzS.single (c := cF) (hF.below hsz0)
      rw [← HNF.out] at this; exact this
    have HX0 := hid (And.intro hsz0 (And.intro hown0 hrw0))
    clear hsz0 hown0 hrw0
    go_enter Try.func85, Try.ntmps85
    go_wp2
    obtain ⟨hsz0, hown0, hrw0⟩ := HX0.out
    clear HX0
    go_loopw [9, 10] (fun v9 v10 wr => ∃ (k p : Nat) (a : Option Addr) (c : Nat) (vs : List Value) (SS : List (List Int)), low ≤ k ∧ k ≤ e ∧ v10 = .int .i64 (k : Int) ∧ v9 = .slice a p c ∧ Hid (p = SS.length ∧ SS = [f] ++ SN k) ∧ wr.ownsRow w.heap.size 22 1 (.slice a p c) p vs ∧ LzS B wr vs SS ∧ Below w.heap.size w wr) (fun _ v10 _ => e - (intOf v10).toNat)
    case atStart => exact ⟨low, 1, _, 1, _, [f], Nat.le_refl _, hlow, rfl, rfl, hid ⟨rfl, by rw [HZ0.out]; rfl⟩, hown0, hrw0, hsz0⟩
    case round =>
      clear hsz0 hown0 hrw0
      obtain ⟨k, p, a, c, vs, SS, hlk, hke, rfl, rfl, HP, hown, hrw, hb⟩ := hrel
      by_cases hlt : k < e
      · have h1 : (k : Int) < (e : Int) := by omega
        have hFw := hF.below (hb.mono (Nat.le_refl _))
        obtain ⟨LL, hLL⟩ : ∃ LL, LL = setsG e m (k + 1) (f ++ [(k : Int)]) := ⟨_, rfl⟩
        have HLL := hid hLL
        have HT := hid (show SS ++ LL = [f] ++ SN (k + 1) ∧ p + LL.length ≤ 15625 from by
          obtain ⟨post, hpost⟩ := HSP.out k hlk hlt
          refine ⟨by rw [HP.out.2, HNX.out k hlk, hLL]; simp, ?_⟩
          have h2 := HTL.out
          rw [HS.out, hpost, ← hLL] at h2
          rw [HP.out.1, HP.out.2]
          simp only [List.length_append] at h2 ⊢
          omega)
        have hpl := HT.out.2
        clear hLL
        have hw0 := hb.size
        have hcl := hFw.i.cls
        have hbl := below_one (w := wr) (.cells #[] 3)
        have hcl1 := hcl.below hbl (Nat.le_refl _)
        have hA := own_litB wr 3 1 (B := wr.heap.size) (Nat.le_refl _)
        have hlenf : (f.map (Value.int .i64)).length = nf * 1 := by rw [List.length_map, HNF.out, Nat.mul_one]
        have HW := hid (And.intro hFw (And.intro hbl (And.intro hown (And.intro hrw hb))))
        clear hFw hcl hbl hown hrw hb
        go_wp2_with (at_builtin
                     first
                     | (go_loud (refine wpList_appLit rfl (.tmp 24) (.tmp 25) 22 rfl wr.heap.size 3 i0 (.int .i64 0) 1 8 under22 hi0 iz0 iz1 iz2 rfl (by decide) wr.heap.size rfl hA aF nf cF (f.map (Value.int .i64)) rfl hlenf hcl1 (ints_one f) (by unfold maxLen; omega) (by omega) (by simp) ?_)
                        intro v1 W1 hown1 hb1 hpl1
                        have hsz1 := hb1.size
                        obtain ⟨a1, c1, rfl⟩ := own_slice2 hown1)
                     | (refine wpList_append_own _ rfl _ _ 22 rfl wr.heap.size 3 i0 (.int .i64 0) 1 8 under22 hi0 iz0 iz1 iz2 rfl (by decide) (.slice a1 nf c1) nf _ rfl (hown1.alloc _) ⟨W1.heap.size, 0, none⟩ 1 1 [.int .i64 (k : Int)] rfl rfl (cell_one_new _ _ _) (ints_oneCell .i64 [(k : Int)]) (by unfold maxLen; omega) (by omega) (by simp at hsz1 ⊢; omega) ?_
                        intro v2 W2 hown2 hg2 _
                        obtain ⟨a2, c2, rfl⟩ := own_slice2 hown2))
        obtain ⟨hFw, hbl, hown, hrw, hb⟩ := HW.out
        have hwr1 : Below wr.heap.size wr W1 := hbl.trans (hb1.mono (by simp))
        have hal := below_one (w := W1) (.cells #[.int .i64 (k : Int)] 3)
        have hwr2 : Below wr.heap.size wr W2 := (hwr1.trans (hal.mono hwr1.size)).grown hg2 (by have := hwr1.size; simp; omega) (own_ge hown1)
        have hrow2 : W2.ownsRow wr.heap.size 3 1 (.slice a2 (nf + 1) c2) (nf + 1) ((f ++ [(k : Int)]).map (Value.int .i64)) := by simpa using hown2
        have hiz := (own_nw hrow2 (by rw [List.length_append, ← HNF.out]; rfl) (by rw [List.length_append, ← HNF.out]; simp; omega) (fun x hx => by
          rcases List.mem_append.1 hx with hx | hx
          · exact hFw.i.2.1 x hx
          · rw [List.mem_singleton.1 hx]; omega)).1.mono (show B ≤ wr.heap.size by omega)
        have ih := HIH.out (f ++ [(k : Int)]) a2 c2 (k + 1) W2 (by have := hwr2.size; omega) hiz (by omega) (by rw [List.length_append, ← HNF.out]; simp; omega)
        rw [show (f ++ [(k : Int)]).length = nf + 1 by rw [List.length_append, ← HNF.out]; rfl, show ((k + 1 : Nat) : Int) = (k : Int) + 1 by omega, show (m : Int) = (M : Int) - 1 by omega, ← HLL.out] at ih
        replace hown := own_below2 hown hwr2
        replace hrw := hrw.map (fun a L h => h.below hwr2)
        replace hb := hb.trans (hwr2.mono hb.size)
        clear hFw hbl hwr1 hal hwr2 hrow2 hiz hown1 hown2 hb1 hg2 hcl1 hA hlenf HW HIH hpl1
        go_wp2_with fail
        refine ih.mono ?_
        rintro e1 W3 ⟨hb3, a3, c3, vs3, rfl, hown3, hrw3⟩
        have hoc := own_cells (own_below2 hown hb3)
        have hge := own_ge (own_below2 hown hb3)
        replace hown := own_below2 hown hb3
        replace hrw := hrw.map (fun a L h => h.below hb3)
        replace hb := hb.trans (hb3.mono hb.size)
        have hcl3 := Cls.of_own2 hown3
        have hone3 := hrw3.one
        have hl3 : vs3.length = LL.length * 1 := by rw [hrw3.1, Nat.mul_one]
        have hbs := hb.size
        clear ih hb3
        go_wp2_with (at_builtin; go_loud (refine wpList_app rfl (.tmp 23) (.tmp 35) 90 rfl w.heap.size 22 j0 (.slice none 0 0) 1 24 under90 hj0 jz0 jz1 jz2 rfl (by decide) (.slice a p c) p vs rfl hown a3 LL.length c3 vs3 rfl hl3 hcl3 hone3 (by unfold maxLen; omega) (by omega) hbs ?_); intro v5 W5 hown5 hg5)
        obtain ⟨a5, c5, rfl⟩ := own_slice2 hown5
        have hkc : Kc 22 w.heap.size (fun _ => False) W3 W5 := Kc.grown hg5 (fun q hq => .inr ⟨hge q hq, by obtain ⟨cur, hh⟩ := hoc q hq; exact ⟨cur, _, hh⟩⟩)
        have hrw5 := (hrw.map (fun a L h => h.kc (by decide) hkc (fun q hq => hq.elim))).app (hrw3.map (fun a L h => h.kc (by decide) hkc (fun q hq => hq.elim)))
        have hb5 : Below w.heap.size w W5 := hb.grown hg5 hbs hge
        have HP2 := hid (show p + LL.length = (SS ++ LL).length ∧ SS ++ LL = [f] ++ SN (k + 1) from ⟨by rw [List.length_append, HP.out.1], HT.out.1⟩)
        clear hown hrw hb hoc hge hown3 hrw3 hcl3 hone3 hl3 hg5 hkc HT HLL
        go_wp2
        go_roundw
        case rel => exact ⟨k + 1, p + LL.length, a5, c5, vs ++ vs3, SS ++ LL, by omega, by omega, by go_num, rfl, HP2, hown5, hrw5, hb5⟩
        case measure => simp [intOf]; omega
      · have h1 : ¬ (k : Int) < (e : Int) := by omega
        obtain rfl : k = e := by omega
        have hST : SS = T := by rw [HP.out.2, HS.out]
        subst hST
        have hp := HP.out.1
        subst hp
        have HZ := hid (show LLP B SS w (.returned (.slice a SS.length c)) wr from ⟨hb, a, c, vs, rfl, hown, hrw⟩)
        clear hown hrw hb HP
        go_wp2
        go_ret
        exact HZ.out
end Go.Proofs.Yteianfbdhakhpaa
