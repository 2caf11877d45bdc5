import Derived.Test.YtmpihcencnkpbaaTE
import Derived.Test.YtmpihcencnkpbaaRA
/-! WiresNext: its walk. -/
namespace Go.Proofs.Ytmpihcencnkpbaa
set_option linter.unusedSimpArgs false
set_option linter.unusedVariables false
open Go Go.RowKit

/-- What is known of the least of those that were looked at. -/
structure NxI (f : Nat → Nat → Nat) (M : Nat) (V : Nat → Nat → Prop) (st : Int × Int × Nat) : Prop where
  all : ∀ l n, V l n → st.2.2 ≤ f l n
  cs : st.2.2 = M ∨ (st.2.2 < M ∧ ∃ a b : Nat, V a b ∧ st.1 = (a : Int) ∧ st.2.1 = (b : Int) ∧ f a b = st.2.2 ∧ ∀ l n, V l n → f l n = st.2.2 → a < l ∨ (a = l ∧ b ≤ n))
theorem NxI.step {N : Int} {T : List (List F3)} {M : Nat} {V V' : Nat → Nat → Prop} {st : Int × Int × Nat} {i j : Nat} (h : NxI (fun l n => mxL (plL N T l n)) M V st) (hV : ∀ l n, V' l n ↔ V l n ∨ (l = i ∧ n = j)) (hx : ∀ a b, V a b → a < i ∨ (a = i ∧ b < j)) (hM : st.2.2 ≤ M) : NxI (fun l n => mxL (plL N T l n)) M V' (nxS N T i j st) := by
  unfold nxS
  by_cases hp : mxL (plL N T i j) < st.2.2
  · rw [if_pos hp]
    refine ⟨fun l n hv => ?_, .inr ⟨by show mxL (plL N T i j) < M; omega, i, j, (hV i j).2 (.inr ⟨rfl, rfl⟩), rfl, rfl, rfl, fun l n hv he => ?_⟩⟩
    · show mxL (plL N T i j) ≤ mxL (plL N T l n)
      rcases (hV l n).1 hv with h1 | ⟨rfl, rfl⟩
      · have := h.all l n h1
        (try simp only at this)
        omega
      · exact Nat.le_refl _
    · rcases (hV l n).1 hv with h1 | ⟨rfl, rfl⟩
      · have := h.all l n h1
        (try simp only at this)
        (try simp only at he)
        omega
      · exact .inr ⟨rfl, Nat.le_refl _⟩
  · rw [if_neg hp]
    refine ⟨fun l n hv => ?_, ?_⟩
    · rcases (hV l n).1 hv with h1 | ⟨rfl, rfl⟩
      · exact h.all l n h1
      · (try simp only); omega
    · rcases h.cs with h1 | ⟨h1, a, b, h2, h3, h4, h5, h6⟩
      · exact .inl h1
      · refine .inr ⟨h1, a, b, (hV a b).2 (.inl h2), h3, h4, h5, fun l n hv he => ?_⟩
        rcases (hV l n).1 hv with h7 | ⟨rfl, rfl⟩
        · exact h6 l n h7 he
        · have := hx a b h2; omega
theorem NxI.inner {N : Int} {T : List (List F3)} {m i : Nat} {st : Int × Int × Nat} (h : NxI (fun l n => mxL (plL N T l n)) T.length (fun l n => l < i ∧ n < m) st) (hst : st.2.2 ≤ T.length) : ∀ j, j ≤ m → NxI (fun l n => mxL (plL N T l n)) T.length (fun l n => (l < i ∧ n < m) ∨ (l = i ∧ n < j)) (nxIn N T i j st)
  | 0, _ => ⟨fun l n hv => h.all l n (by omega), by
      rcases h.cs with h1 | ⟨h1, a, b, h2, h3⟩
      · exact .inl h1
      · exact .inr ⟨h1, a, b, .inl h2, h3.1, h3.2.1, h3.2.2.1, fun l n hv he => h3.2.2.2 l n (by omega) he⟩⟩
  | j + 1, hj => by
    rw [nxIn]
    refine (NxI.inner h hst j (by omega)).step (fun l n => ?_) (fun a b hv => by omega) (Nat.le_trans (nxIn_le _ _ _ _ _) hst)
    constructor
    · intro hv; omega
    · intro hv; omega
theorem NxI.outer {n : Nat} {T : List (List F3)} : ∀ i, NxI (fun l k => mxL (plL (n : Int) T l k)) T.length (fun l k => l < i ∧ k < n) (nxO (n : Int) T i)
  | 0 => ⟨fun l k hv => by omega, .inl rfl⟩
  | i + 1 => by
    rw [nxO, Int.toNat_natCast]
    have h := (NxI.outer (n := n) (T := T) i).inner (nxO_le _ _ _) n (Nat.le_refl _)
    refine ⟨fun l k hv => h.all l k (by omega), ?_⟩
    rcases h.cs with h1 | ⟨h1, a, b, h2, h3, h4, h5, h6⟩
    · exact .inl h1
    · exact .inr ⟨h1, a, b, by omega, h3, h4, h5, fun l k hv he => h6 l k (by omega) he⟩
theorem mxL_pos {l : List Int} (h : l ≠ []) : 1 ≤ mxL l := by
  cases l with
  | nil => exact absurd rfl h
  | cons x l =>
    have := mxL_ge (l := x :: l) (x := x) List.mem_cons_self
    rw [List.count_cons_self] at this
    omega
theorem prB_mk {L N l n : Int} (hL : 1 ≤ L ∧ L ≤ 5) (hN : 1 ≤ N ∧ N ≤ 5) (hl : 0 ≤ l ∧ l < L) (hn : 0 ≤ n ∧ n < N) : prB L N l n = true := by
  unfold prB fromI
  rw [w64_in (x := L - 1) (by omega), w64_in (x := N - 1) (by omega)]
  simp only [Bool.and_eq_true, decide_eq_true_eq]
  omega
theorem akE_two {L N F : Int} {P : List F3} (hv : vB L N P F = true) : akE L N P F true = 0 ∨ akE L N P F true = 3 := by
  have : chE L N P F true = 0 := by unfold chE; rw [hv]; rfl
  unfold akE
  rw [if_pos this]
  split
  · exact .inr rfl
  · exact .inl rfl
/-- What is true of the next press. -/
theorem next_law {L N F l n : Int} {P : List F3} (hr : rdB L N P F = true) (hp : prB L N l n = true) :
    lfE L N P F l n = akE L N P F true ∧ ((akE L N P F true = 3 ∧ nxE L N P F = 3) ∨ (akE L N P F true = 0 ∧ nxE L N P F = 3 ∧ lfR L N P F l n = (akT L N P F true).length) ∨
      (akE L N P F true = 0 ∧ nxE L N P F = 0 ∧ prB L N (nxA L N P F) (nxB L N P F) = true ∧ lfE L N P F (nxA L N P F) (nxB L N P F) = 0 ∧ 1 ≤ lfR L N P F (nxA L N P F) (nxB L N P F) ∧ lfR L N P F (nxA L N P F) (nxB L N P F) < (akT L N P F true).length ∧ lfR L N P F (nxA L N P F) (nxB L N P F) ≤ lfR L N P F l n ∧
        (lfR L N P F (nxA L N P F) (nxB L N P F) < lfR L N P F l n ∨ (lfR L N P F (nxA L N P F) (nxB L N P F) = lfR L N P F l n ∧ (nxA L N P F < l ∨ (l = nxA L N P F ∧ nxB L N P F ≤ n)))))) := by
  obtain ⟨hv, hL4, hN4, hF2⟩ := rdB_ok hr
  obtain ⟨hL, hN, _⟩ := vB_siz hv
  obtain ⟨hl, hn⟩ := prB_rng hL hN hp
  have hE : ∀ x y, prB L N x y = true → lfE L N P F x y = akE L N P F true := fun x y h => by unfold lfE; rw [h]
  refine ⟨hE _ _ hp, ?_⟩
  rcases akE_two hv with h0 | h3
  · obtain ⟨_, _, hne, hT⟩ := akE_ok h0
    have hR : ∀ x y, prB L N x y = true → lfR L N P F x y = mxL (plL N (truL L N P F) x y) := fun x y h => by unfold lfR; rw [if_pos (by rw [hE x y h]; exact h0)]
    obtain ⟨a, ha⟩ : ∃ a : Nat, L = (a : Int) := ⟨L.toNat, by omega⟩
    obtain ⟨b, hb⟩ : ∃ b : Nat, N = (b : Int) := ⟨N.toNat, by omega⟩
    obtain ⟨x, hx⟩ : ∃ x : Nat, l = (x : Int) := ⟨l.toNat, by omega⟩
    obtain ⟨y, hy⟩ : ∃ y : Nat, n = (y : Int) := ⟨n.toNat, by omega⟩
    subst ha hb hx hy
    have hO := NxI.outer (n := b) (T := truL (a : Int) (b : Int) P F) a
    rw [hT]
    have hle : mxL (plL (b : Int) (truL a b P F) x y) ≤ (truL (a : Int) (b : Int) P F).length := Nat.le_trans (mxL_le _) (by rw [plL, List.length_map]; exact Nat.le_refl _)
    have hxy := hO.all x y ⟨by omega, by omega⟩
    (try simp only at hxy)
    rcases hO.cs with h1 | ⟨h1, u, v, ⟨h2, h3⟩, h4, h5, h6, h7⟩
    · right; left
      refine ⟨h0, by unfold nxE; rw [if_pos h0, Int.toNat_natCast, if_pos h1], ?_⟩
      rw [hR _ _ hp]; omega
    · right; right
      have e1 : nxE (a : Int) (b : Int) P F = 0 := by unfold nxE; rw [if_pos h0, Int.toNat_natCast, if_neg (by omega)]
      have e2 : nxA (a : Int) (b : Int) P F = (u : Int) := by unfold nxA; rw [if_pos e1, Int.toNat_natCast, h4]
      have e3 : nxB (a : Int) (b : Int) P F = (v : Int) := by unfold nxB; rw [if_pos e1, Int.toNat_natCast, h5]
      rw [e2, e3]
      have hq : prB (a : Int) (b : Int) (u : Int) (v : Int) = true := prB_mk hL hN ⟨by omega, by omega⟩ ⟨by omega, by omega⟩
      rw [hR _ _ hp, hR _ _ hq, hE _ _ hq]
      (try simp only at h6)
      (try simp only at h7)
      refine ⟨h0, e1, hq, h0, ?_, by omega, by omega, ?_⟩
      · exact mxL_pos (fun e => hne (by unfold plL at e; exact List.map_eq_nil_iff.1 e))
      · rcases Nat.lt_or_ge (mxL (plL (b : Int) (truL a b P F) u v)) (mxL (plL (b : Int) (truL a b P F) x y)) with h8 | h8
        · exact .inl h8
        · refine .inr ⟨by omega, ?_⟩
          have := h7 x y ⟨by omega, by omega⟩ (by omega)
          omega
  · left
    refine ⟨h3, ?_⟩
    unfold nxE
    rw [if_neg (by omega)]; exact h3

set_option maxRecDepth 100000 in
set_option maxHeartbeats 6000000 in
theorem wiresNext_any (L N : Int) (aP : Option Addr) (cP : Nat) (P : List F3) (F : Int) (l n : Int) (w : World) (hS : WiIn w aP cP P) : Calls Try.prog 9 #[.agg #[.int .i64 L, .int .i64 N, .slice aP P.length cP, .int .i64 F], .agg #[.int .i64 l, .int .i64 n]] w fun e w' => e = .returned (.bool true) ∧ Below w.heap.size w w' := by
  obtain ⟨W, hW, hb, hs, x0, x1⟩ := boxes2 w #[.int .i64 L, .int .i64 N, .slice aP P.length cP, .int .i64 F] 24 #[.int .i64 l, .int .i64 n] 27
  have hP := hS.pz.below hb (Nat.le_refl _)
  have hwk := works_any
  have hrd := fun V (h : Pz V aP P) => ready_any L N aP cP P F V h
  have hib := fun x y V => IsButton_any L N aP cP P F x y V
  have hnx := fun V (h : Pz V aP P) => Next_any L N aP cP P F V h
  have hmn := fun V (h : Pz V aP P) => Many_any L N aP cP P F V h
  have hlf := fun x y V (h : Pz V aP P) => Left_any L N aP cP P F x y V h
  have hkn := fun x V => isKnown_any x V
  have hlaw := fun h1 h2 => next_law (L := L) (N := N) (F := F) (P := P) (l := l) (n := n) h1 h2
  generalize rdB L N P F = r at *
  have hbl := hib l n
  have hll := hlf l n
  obtain ⟨q, hq⟩ : ∃ q, q = prB L N l n := ⟨_, rfl⟩
  rw [← hq] at hbl hlaw
  clear hq hS
  have c0 := x0.cell 0 rfl; have c1 := x0.cell 1 rfl; have c2 := x0.cell 2 rfl; have c3 := x0.cell 3 rfl
  have d0 := x1.cell 0 rfl; have d1 := x1.cell 1 rfl
  cases r
  · skip
    clear hlaw hnx hmn hlf hkn hib hbl hll
    go_enter Try.func9, Try.ntmps9
    go_wp2_with fail
    refine (hrd _ hP).mono ?_
    rintro e Vc1 ⟨rfl, hb1⟩
    clear c0 c1 c2 c3
    clear d0 d1
    replace x0 := x0.below hb1
    replace x1 := x1.below hb1
    replace hP := hP.below hb1 (Nat.le_refl _)
    replace hb := hb.trans (hb1.mono hb.size)
    clear hb1 hW
    have c0 := x0.cell 0 rfl; have c1 := x0.cell 1 rfl; have c2 := x0.cell 2 rfl; have c3 := x0.cell 3 rfl
    have d0 := x1.cell 0 rfl; have d1 := x1.cell 1 rfl
    go_wp2_with fail
    refine (hwk _).mono ?_
    rintro e Vw ⟨rfl, hbw9⟩
    clear c0 c1 c2 c3
    clear d0 d1
    replace hb := hb.trans (hbw9.mono hb.size)
    go_wp2
    go_ret
    exact ⟨rfl, hb⟩
  · cases q
    · skip
      clear hlaw hnx hmn hlf hkn hib hll
      go_enter Try.func9, Try.ntmps9
      go_wp2_with fail
      refine (hrd _ hP).mono ?_
      rintro e Vc3 ⟨rfl, hb1⟩
      clear c0 c1 c2 c3
      clear d0 d1
      replace x0 := x0.below hb1
      replace x1 := x1.below hb1
      replace hP := hP.below hb1 (Nat.le_refl _)
      replace hb := hb.trans (hb1.mono hb.size)
      clear hb1 hW hrd
      have c0 := x0.cell 0 rfl; have c1 := x0.cell 1 rfl; have c2 := x0.cell 2 rfl; have c3 := x0.cell 3 rfl
      have d0 := x1.cell 0 rfl; have d1 := x1.cell 1 rfl
      go_wp2_with fail
      refine (hbl _).mono ?_
      rintro e Vc4 ⟨rfl, hb1⟩
      clear c0 c1 c2 c3
      clear d0 d1
      replace x0 := x0.below hb1
      replace x1 := x1.below hb1
      replace hP := hP.below hb1 (Nat.le_refl _)
      replace hb := hb.trans (hb1.mono hb.size)
      clear hb1 hbl
      have c0 := x0.cell 0 rfl; have c1 := x0.cell 1 rfl; have c2 := x0.cell 2 rfl; have c3 := x0.cell 3 rfl
      have d0 := x1.cell 0 rfl; have d1 := x1.cell 1 rfl
      go_wp2_with fail
      refine (hwk _).mono ?_
      rintro e Vw ⟨rfl, hbw9⟩
      clear c0 c1 c2 c3
      clear d0 d1
      replace hb := hb.trans (hbw9.mono hb.size)
      go_wp2
      go_ret
      exact ⟨rfl, hb⟩
    · obtain ⟨hle, hD⟩ := hlaw rfl rfl
      have hbn := hib (nxA L N P F) (nxB L N P F)
      have hln := hlf (nxA L N P F) (nxB L N P F)
      clear hlaw hib hlf
      rw [hle] at hll
      generalize prB L N (nxA L N P F) (nxB L N P F) = z at *
      generalize lfE L N P F (nxA L N P F) (nxB L N P F) = zE at *
      generalize lfR L N P F (nxA L N P F) (nxB L N P F) = u at *
      generalize lfR L N P F l n = v at *
      generalize nxA L N P F = a at *
      generalize nxB L N P F = b at *
      generalize nxE L N P F = nE at *
      generalize (akT L N P F true).length = m at *
      generalize akE L N P F true = E at *
      clear hle
      have HD := hid hD
      clear hD
      rcases HD.out with ⟨rfl, rfl⟩ | ⟨rfl, rfl, hvm⟩ | ⟨rfl, rfl, rfl, rfl, h1, h2, h3, h4⟩
      · skip
        clear HD hbn hln
        replace hkn := hkn 3
        rw [show knB 3 = true from rfl] at hkn
        go_enter Try.func9, Try.ntmps9
        go_wp2_with fail
        refine (hrd _ hP).mono ?_
        rintro e Vc6 ⟨rfl, hb1⟩
        clear c0 c1 c2 c3
        clear d0 d1
        replace x0 := x0.below hb1
        replace x1 := x1.below hb1
        replace hP := hP.below hb1 (Nat.le_refl _)
        replace hb := hb.trans (hb1.mono hb.size)
        clear hb1 hW hrd
        have c0 := x0.cell 0 rfl; have c1 := x0.cell 1 rfl; have c2 := x0.cell 2 rfl; have c3 := x0.cell 3 rfl
        have d0 := x1.cell 0 rfl; have d1 := x1.cell 1 rfl
        go_wp2_with fail
        refine (hbl _).mono ?_
        rintro e Vc7 ⟨rfl, hb1⟩
        clear c0 c1 c2 c3
        clear d0 d1
        replace x0 := x0.below hb1
        replace x1 := x1.below hb1
        replace hP := hP.below hb1 (Nat.le_refl _)
        replace hb := hb.trans (hb1.mono hb.size)
        clear hb1 hbl
        have c0 := x0.cell 0 rfl; have c1 := x0.cell 1 rfl; have c2 := x0.cell 2 rfl; have c3 := x0.cell 3 rfl
        have d0 := x1.cell 0 rfl; have d1 := x1.cell 1 rfl
        go_wp2_with fail
        refine (hnx _ hP).mono ?_
        rintro e Vc8 ⟨rfl, hb1⟩
        clear c0 c1 c2 c3
        clear d0 d1
        replace x0 := x0.below hb1
        replace x1 := x1.below hb1
        replace hP := hP.below hb1 (Nat.le_refl _)
        replace hb := hb.trans (hb1.mono hb.size)
        clear hb1 hnx
        have c0 := x0.cell 0 rfl; have c1 := x0.cell 1 rfl; have c2 := x0.cell 2 rfl; have c3 := x0.cell 3 rfl
        have d0 := x1.cell 0 rfl; have d1 := x1.cell 1 rfl
        go_wp2_with fail
        refine (hmn _ hP).mono ?_
        rintro e Vc9 ⟨rfl, hb1⟩
        clear c0 c1 c2 c3
        clear d0 d1
        replace x0 := x0.below hb1
        replace x1 := x1.below hb1
        replace hP := hP.below hb1 (Nat.le_refl _)
        replace hb := hb.trans (hb1.mono hb.size)
        clear hb1 hmn
        have c0 := x0.cell 0 rfl; have c1 := x0.cell 1 rfl; have c2 := x0.cell 2 rfl; have c3 := x0.cell 3 rfl
        have d0 := x1.cell 0 rfl; have d1 := x1.cell 1 rfl
        go_wp2_with fail
        refine (hll _ hP).mono ?_
        rintro e Vc10 ⟨rfl, hb1⟩
        clear c0 c1 c2 c3
        clear d0 d1
        replace x0 := x0.below hb1
        replace x1 := x1.below hb1
        replace hP := hP.below hb1 (Nat.le_refl _)
        replace hb := hb.trans (hb1.mono hb.size)
        clear hb1 hll
        have c0 := x0.cell 0 rfl; have c1 := x0.cell 1 rfl; have c2 := x0.cell 2 rfl; have c3 := x0.cell 3 rfl
        have d0 := x1.cell 0 rfl; have d1 := x1.cell 1 rfl
        go_wp2_with fail
        refine (hkn _).mono ?_
        rintro e Vc11 ⟨rfl, rfl⟩
        go_wp2_with fail
        refine (hkn _).mono ?_
        rintro e Vc12 ⟨rfl, rfl⟩
        go_wp2_with fail
        refine (hwk _).mono ?_
        rintro e Vw ⟨rfl, hbw9⟩
        clear c0 c1 c2 c3
        clear d0 d1
        replace hb := hb.trans (hbw9.mono hb.size)
        go_wp2
        go_ret
        exact ⟨rfl, hb⟩
      · skip
        clear HD hbn hln
        have hk0 := hkn 0
        replace hkn := hkn 3
        rw [show knB 3 = true from rfl] at hkn
        rw [show knB 0 = true from rfl] at hk0
        subst hvm
        go_enter Try.func9, Try.ntmps9
        go_wp2_with fail
        refine (hrd _ hP).mono ?_
        rintro e Vc14 ⟨rfl, hb1⟩
        clear c0 c1 c2 c3
        clear d0 d1
        replace x0 := x0.below hb1
        replace x1 := x1.below hb1
        replace hP := hP.below hb1 (Nat.le_refl _)
        replace hb := hb.trans (hb1.mono hb.size)
        clear hb1 hW hrd
        have c0 := x0.cell 0 rfl; have c1 := x0.cell 1 rfl; have c2 := x0.cell 2 rfl; have c3 := x0.cell 3 rfl
        have d0 := x1.cell 0 rfl; have d1 := x1.cell 1 rfl
        go_wp2_with fail
        refine (hbl _).mono ?_
        rintro e Vc15 ⟨rfl, hb1⟩
        clear c0 c1 c2 c3
        clear d0 d1
        replace x0 := x0.below hb1
        replace x1 := x1.below hb1
        replace hP := hP.below hb1 (Nat.le_refl _)
        replace hb := hb.trans (hb1.mono hb.size)
        clear hb1 hbl
        have c0 := x0.cell 0 rfl; have c1 := x0.cell 1 rfl; have c2 := x0.cell 2 rfl; have c3 := x0.cell 3 rfl
        have d0 := x1.cell 0 rfl; have d1 := x1.cell 1 rfl
        go_wp2_with fail
        refine (hnx _ hP).mono ?_
        rintro e Vc16 ⟨rfl, hb1⟩
        clear c0 c1 c2 c3
        clear d0 d1
        replace x0 := x0.below hb1
        replace x1 := x1.below hb1
        replace hP := hP.below hb1 (Nat.le_refl _)
        replace hb := hb.trans (hb1.mono hb.size)
        clear hb1 hnx
        have c0 := x0.cell 0 rfl; have c1 := x0.cell 1 rfl; have c2 := x0.cell 2 rfl; have c3 := x0.cell 3 rfl
        have d0 := x1.cell 0 rfl; have d1 := x1.cell 1 rfl
        go_wp2_with fail
        refine (hmn _ hP).mono ?_
        rintro e Vc17 ⟨rfl, hb1⟩
        clear c0 c1 c2 c3
        clear d0 d1
        replace x0 := x0.below hb1
        replace x1 := x1.below hb1
        replace hP := hP.below hb1 (Nat.le_refl _)
        replace hb := hb.trans (hb1.mono hb.size)
        clear hb1 hmn
        have c0 := x0.cell 0 rfl; have c1 := x0.cell 1 rfl; have c2 := x0.cell 2 rfl; have c3 := x0.cell 3 rfl
        have d0 := x1.cell 0 rfl; have d1 := x1.cell 1 rfl
        go_wp2_with fail
        refine (hll _ hP).mono ?_
        rintro e Vc18 ⟨rfl, hb1⟩
        clear c0 c1 c2 c3
        clear d0 d1
        replace x0 := x0.below hb1
        replace x1 := x1.below hb1
        replace hP := hP.below hb1 (Nat.le_refl _)
        replace hb := hb.trans (hb1.mono hb.size)
        clear hb1 hll
        have c0 := x0.cell 0 rfl; have c1 := x0.cell 1 rfl; have c2 := x0.cell 2 rfl; have c3 := x0.cell 3 rfl
        have d0 := x1.cell 0 rfl; have d1 := x1.cell 1 rfl
        go_wp2_with fail
        refine (hkn _).mono ?_
        rintro e Vc19 ⟨rfl, rfl⟩
        go_wp2_with fail
        refine (hk0 _).mono ?_
        rintro e Vc20 ⟨rfl, rfl⟩
        go_wp2_with fail
        refine (hwk _).mono ?_
        rintro e Vw ⟨rfl, hbw9⟩
        clear c0 c1 c2 c3
        clear d0 d1
        replace hb := hb.trans (hbw9.mono hb.size)
        go_wp2
        go_ret
        exact ⟨rfl, hb⟩
      · skip
        clear HD
        replace hkn := hkn 0
        rw [show knB 0 = true from rfl] at hkn
        have i1 : (1 : Int) ≤ (u : Int) := by omega
        have i2 : (u : Int) < (m : Int) := by omega
        have i3 : (u : Int) ≤ (v : Int) := by omega
        have hcs : ((u : Int) < (v : Int)) ∨ ((v : Int) ≤ (u : Int) ∧ a < l) ∨ ((v : Int) ≤ (u : Int) ∧ l ≤ a ∧ (l == a) = true ∧ b ≤ n) := by
          rcases h4 with h | ⟨h, h5 | ⟨h5, h6⟩⟩
          · exact .inl (by omega)
          · exact .inr (.inl ⟨by omega, h5⟩)
          · exact .inr (.inr ⟨by omega, by omega, by simp [h5], h6⟩)
        clear h1 h2 h3 h4
        rcases hcs with j1 | ⟨j1, j2⟩ | ⟨j1, j2, j3, j4⟩
        all_goals
          go_enter Try.func9, Try.ntmps9
          go_wp2_with fail
          refine (hrd _ hP).mono ?_
          rintro e Vc22 ⟨rfl, hb1⟩
          clear c0 c1 c2 c3
          clear d0 d1
          replace x0 := x0.below hb1
          replace x1 := x1.below hb1
          replace hP := hP.below hb1 (Nat.le_refl _)
          replace hb := hb.trans (hb1.mono hb.size)
          clear hb1 hW hrd
          have c0 := x0.cell 0 rfl; have c1 := x0.cell 1 rfl; have c2 := x0.cell 2 rfl; have c3 := x0.cell 3 rfl
          have d0 := x1.cell 0 rfl; have d1 := x1.cell 1 rfl
          go_wp2_with fail
          refine (hbl _).mono ?_
          rintro e Vc23 ⟨rfl, hb1⟩
          clear c0 c1 c2 c3
          clear d0 d1
          replace x0 := x0.below hb1
          replace x1 := x1.below hb1
          replace hP := hP.below hb1 (Nat.le_refl _)
          replace hb := hb.trans (hb1.mono hb.size)
          clear hb1 hbl
          have c0 := x0.cell 0 rfl; have c1 := x0.cell 1 rfl; have c2 := x0.cell 2 rfl; have c3 := x0.cell 3 rfl
          have d0 := x1.cell 0 rfl; have d1 := x1.cell 1 rfl
          go_wp2_with fail
          refine (hnx _ hP).mono ?_
          rintro e Vc24 ⟨rfl, hb1⟩
          clear c0 c1 c2 c3
          clear d0 d1
          replace x0 := x0.below hb1
          replace x1 := x1.below hb1
          replace hP := hP.below hb1 (Nat.le_refl _)
          replace hb := hb.trans (hb1.mono hb.size)
          clear hb1 hnx
          have c0 := x0.cell 0 rfl; have c1 := x0.cell 1 rfl; have c2 := x0.cell 2 rfl; have c3 := x0.cell 3 rfl
          have d0 := x1.cell 0 rfl; have d1 := x1.cell 1 rfl
          go_wp2_with fail
          refine (hmn _ hP).mono ?_
          rintro e Vc25 ⟨rfl, hb1⟩
          clear c0 c1 c2 c3
          clear d0 d1
          replace x0 := x0.below hb1
          replace x1 := x1.below hb1
          replace hP := hP.below hb1 (Nat.le_refl _)
          replace hb := hb.trans (hb1.mono hb.size)
          clear hb1 hmn
          have c0 := x0.cell 0 rfl; have c1 := x0.cell 1 rfl; have c2 := x0.cell 2 rfl; have c3 := x0.cell 3 rfl
          have d0 := x1.cell 0 rfl; have d1 := x1.cell 1 rfl
          go_wp2_with fail
          refine (hll _ hP).mono ?_
          rintro e Vc26 ⟨rfl, hb1⟩
          clear c0 c1 c2 c3
          clear d0 d1
          replace x0 := x0.below hb1
          replace x1 := x1.below hb1
          replace hP := hP.below hb1 (Nat.le_refl _)
          replace hb := hb.trans (hb1.mono hb.size)
          clear hb1 hll
          have c0 := x0.cell 0 rfl; have c1 := x0.cell 1 rfl; have c2 := x0.cell 2 rfl; have c3 := x0.cell 3 rfl
          have d0 := x1.cell 0 rfl; have d1 := x1.cell 1 rfl
          go_wp2_with fail
          refine (hkn _).mono ?_
          rintro e Vc27 ⟨rfl, rfl⟩
          go_wp2_with fail
          refine (hkn _).mono ?_
          rintro e Vc28 ⟨rfl, rfl⟩
          go_wp2_with fail
          refine (hbn _).mono ?_
          rintro e Vc29 ⟨rfl, hb1⟩
          clear c0 c1 c2 c3
          clear d0 d1
          replace x0 := x0.below hb1
          replace x1 := x1.below hb1
          replace hP := hP.below hb1 (Nat.le_refl _)
          replace hb := hb.trans (hb1.mono hb.size)
          clear hb1
          have c0 := x0.cell 0 rfl; have c1 := x0.cell 1 rfl; have c2 := x0.cell 2 rfl; have c3 := x0.cell 3 rfl
          have d0 := x1.cell 0 rfl; have d1 := x1.cell 1 rfl
          go_wp2_with fail
          refine (hln _ hP).mono ?_
          rintro e Vc30 ⟨rfl, hb1⟩
          clear c0 c1 c2 c3
          clear d0 d1
          replace x0 := x0.below hb1
          replace x1 := x1.below hb1
          replace hP := hP.below hb1 (Nat.le_refl _)
          replace hb := hb.trans (hb1.mono hb.size)
          clear hb1 hln hbn
          have c0 := x0.cell 0 rfl; have c1 := x0.cell 1 rfl; have c2 := x0.cell 2 rfl; have c3 := x0.cell 3 rfl
          have d0 := x1.cell 0 rfl; have d1 := x1.cell 1 rfl
          go_wp2_with fail
          refine (hwk _).mono ?_
          rintro e Vw ⟨rfl, hbw9⟩
          clear c0 c1 c2 c3
          clear d0 d1
          replace hb := hb.trans (hbw9.mono hb.size)
          go_wp2
          go_ret
          exact ⟨rfl, hb⟩
end Go.Proofs.Ytmpihcencnkpbaa
