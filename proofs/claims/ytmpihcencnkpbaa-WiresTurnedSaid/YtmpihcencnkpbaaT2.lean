import Derived.Test.YtmpihcencnkpbaaT1
/-! Whether a box is valid, and a list of faults a set. -/
namespace Go.Proofs.Ytmpihcencnkpbaa
set_option linter.unusedSimpArgs false
set_option linter.unusedVariables false
open Go Go.RowKit

set_option maxRecDepth 100000 in
set_option maxHeartbeats 1000000 in
theorem isPress_any (L N : Int) (aP : Option Addr) (cP : Nat) (P : List F3) (F : Int) (l n : Int) (w : World) : Calls Try.prog 58 #[.agg #[.int .i64 L, .int .i64 N, .slice aP P.length cP, .int .i64 F], .int .i64 l, .int .i64 n] w fun e w' => e = .returned (.bool (prB L N l n)) ∧ Below w.heap.size w w' := by
  obtain ⟨W, hW, hb, _, x0⟩ := boxes1 w #[.int .i64 L, .int .i64 N, .slice aP P.length cP, .int .i64 F] 24
  have h1 := isFrom_any 0 l (w64 (L - 1)) W
  have h2 := isFrom_any 0 n (w64 (N - 1)) W
  have e1 : IntKind.i64.wrap (L - 1) = w64 (L - 1) := rfl
  have e2 : IntKind.i64.wrap (N - 1) = w64 (N - 1) := rfl
  unfold prB
  generalize w64 (L - 1) = m1 at *
  generalize w64 (N - 1) = m2 at *
  generalize fromI 0 l m1 = r1 at *
  generalize fromI 0 n m2 = r2 at *
  have c0 := x0.cell 0 rfl; have c1 := x0.cell 1 rfl; have c2 := x0.cell 2 rfl; have c3 := x0.cell 3 rfl
  cases r1
  · go_enter Try.func58, Try.ntmps58
    go_wp2_with fail
    refine h1.mono ?_
    rintro e W1 ⟨rfl, rfl⟩
    clear hW x0
    go_wp2
    go_ret
    exact ⟨rfl, hb⟩
  · go_enter Try.func58, Try.ntmps58
    go_wp2_with fail
    refine h1.mono ?_
    rintro e W1 ⟨rfl, rfl⟩
    clear hW x0
    go_wp2_with fail
    refine h2.mono ?_
    rintro e W1 ⟨rfl, rfl⟩
    go_wp2
    go_ret
    exact ⟨ret_bool (by simp), hb⟩

set_option maxRecDepth 100000 in
set_option maxHeartbeats 2000000 in
theorem isFault_any (L N : Int) (aP : Option Addr) (cP : Nat) (P : List F3) (F : Int) (f : F3) (w : World) : Calls Try.prog 83 #[.agg #[.int .i64 L, .int .i64 N, .slice aP P.length cP, .int .i64 F], .agg #[.int .i64 f.k, .int .i64 f.a, .int .i64 f.b]] w fun e w' => e = .returned (.bool (faultB L N f)) ∧ Below w.heap.size w w' := by
  obtain ⟨W, hW, hb, _, x0, x1⟩ := boxes2 w #[.int .i64 L, .int .i64 N, .slice aP P.length cP, .int .i64 F] 24 #[.int .i64 f.k, .int .i64 f.a, .int .i64 f.b] 63
  have hd1 := isDead_any L f W
  have hd2 := isDead_any N f W
  have hc1 := isCross_any L f W
  have hc2 := isCross_any N f W
  unfold faultB
  generalize deadB L f = r1 at *
  generalize deadB N f = r2 at *
  generalize crossB L f = r3 at *
  generalize crossB N f = r4 at *
  obtain ⟨k, a, b⟩ := f
  simp only at *
  have c0 := x0.cell 0 rfl; have c1 := x0.cell 1 rfl; have c2 := x0.cell 2 rfl; have c3 := x0.cell 3 rfl
  have d0 := x1.cell 0 rfl; have d1 := x1.cell 1 rfl; have d2 := x1.cell 2 rfl
  clear x0 x1
  by_cases h1 : k = 1
  · subst h1
    go_enter Try.func83, Try.ntmps83
    go_wp2_with fail
    refine hd1.mono ?_
    rintro e W1 ⟨rfl, hb1⟩
    replace hb := hb.trans (hb1.mono hb.size)
    clear hW hb1 c0 c1 c2 c3 d0 d1 d2
    go_wp2
    go_ret
    exact ⟨by simp, hb⟩
  · by_cases h2 : k = 2
    · subst h2
      go_enter Try.func83, Try.ntmps83
      go_wp2_with fail
      refine hd2.mono ?_
      rintro e W1 ⟨rfl, hb1⟩
      replace hb := hb.trans (hb1.mono hb.size)
      clear hW hb1 c0 c1 c2 c3 d0 d1 d2
      go_wp2
      go_ret
      exact ⟨by simp, hb⟩
    · by_cases h3 : k = 3
      · subst h3
        go_enter Try.func83, Try.ntmps83
        go_wp2_with fail
        refine hc1.mono ?_
        rintro e W1 ⟨rfl, hb1⟩
        replace hb := hb.trans (hb1.mono hb.size)
        clear hW hb1 c0 c1 c2 c3 d0 d1 d2
        go_wp2
        go_ret
        exact ⟨by simp, hb⟩
      · by_cases h4 : k = 4
        · subst h4
          go_enter Try.func83, Try.ntmps83
          go_wp2_with fail
          refine hc2.mono ?_
          rintro e W1 ⟨rfl, hb1⟩
          replace hb := hb.trans (hb1.mono hb.size)
          clear hW hb1 c0 c1 c2 c3 d0 d1 d2
          go_wp2
          go_ret
          exact ⟨by simp, hb⟩
        · have b1 : (k == 1) = false := by simpa using h1
          have b2 : (k == 2) = false := by simpa using h2
          have b3 : (k == 3) = false := by simpa using h3
          have b4 : (k == 4) = false := by simpa using h4
          rw [if_neg h1, if_neg h2, if_neg h3, if_neg h4]
          clear h1 h2 h3 h4
          go_enter Try.func83, Try.ntmps83
          go_wp2
          go_ret
          exact ⟨rfl, hb⟩

theorem fitB_no {s : List F3} {f x : F3} (hx : x ∈ s) (h : offB x f = false) : fitB s f = false := by
  unfold fitB
  rw [← Bool.not_eq_true, List.all_eq_true]
  intro hh
  rw [hh x hx] at h; cases h
theorem all_snoc3 {p : F3 → Bool} {cs : List F3} {x : F3} (h : cs.all p = true) (hx : p x = true) : (cs ++ [x]).all p = true := by
  rw [List.all_append, h]; simp [hx]

set_option maxRecDepth 100000 in
set_option maxHeartbeats 3000000 in
theorem fits_any (a : Option Addr) (c : Nat) (s : List F3) (f : F3) (w : World) (hX : Fz w a s) : Calls Try.prog 84 #[.slice a s.length c, .agg #[.int .i64 f.k, .int .i64 f.a, .int .i64 f.b]] w fun e w' => e = .returned (.bool (fitB s f)) ∧ Below w.heap.size w w' := by
  obtain ⟨W, hW, hb, _, x0⟩ := boxes1 w #[.int .i64 f.k, .int .i64 f.a, .int .i64 f.b] 63
  have hlen := hX.len
  have HN := fun x hx h => fitB_no (s := s) (f := f) (x := x) hx h
  have HA : s.all (fun g => offB g f) = true → fitB s f = true := fun h => h
  obtain ⟨r, hr⟩ : ∃ r, r = fitB s f := ⟨_, rfl⟩
  rw [← hr] at HN HA ⊢
  clear hr
  obtain ⟨n, hn⟩ : ∃ n, n = s.length := ⟨_, rfl⟩
  rw [← hn] at hlen
  rw [← hn]
  have HLN := hid hn
  clear hn
  have hX1 := hX.below hb (Nat.le_refl _)
  clear hX
  have c0 := x0.cell 0 rfl; have c1 := x0.cell 1 rfl; have c2 := x0.cell 2 rfl
  go_enter Try.func84, Try.ntmps84
  go_wp2
  clear hW c0 c1 c2
  go_loopw [6, 9] (fun v6 v9 wr => ∃ k : Nat, k ≤ n ∧ v9 = .int .i64 (k : Int) ∧ Hid ((s.take k).all (fun g => offB g f) = true) ∧ Below W.heap.size W wr) (fun _ v9 _ => n - (intOf v9).toNat)
  case atStart => exact ⟨0, Nat.zero_le _, rfl, hid rfl, Below.refl _ _⟩
  case round =>
    obtain ⟨k, hk, rfl, HK, hb1⟩ := hrel
    by_cases hlt : k < n
    · have hXr := hX1.below hb1 (Nat.le_refl _)
      obtain ⟨b, off, x, rfl, hbl, ⟨q0, q1, q2⟩, _, hmem, _, _, htk⟩ := hXr.at (k := k) (by rw [← HLN.out]; exact hlt)
      have hkI : (k : Int) < n := by omega
      have hk0 : (0 : Int) ≤ (k : Int) := by omega
      have hno := HN x hmem
      have hce := fun v => compare_any x f v
      have hcl := fun v => clash_any x f v
      have HO : Hid (offB x f = (!(decide (0 ≤ cmpF x f) || clB x f))) := hid rfl
      rw [show offB x f = (!(decide (0 ≤ cmpF x f) || clB x f)) from rfl] at hno
      generalize cmpF x f = u at *
      generalize clB x f = d at *
      have hba := below_one (w := wr) (.cells #[.int .i64 x.k, .int .i64 x.a, .int .i64 x.b] 63)
      have hb2 := hb1.trans (hba.mono hb1.size)
      have x1 := Bx.new wr #[.int .i64 x.k, .int .i64 x.a, .int .i64 x.b] 63
      replace x0 := (x0.below hb1).below hba
      have HXa := hid (And.intro hb2 (And.intro x1 x0))
      clear hb1 hba hb2 x1 x0 hmem HN hXr
      go_upto_region 4 with fail
      obtain ⟨hb2, x1, x0⟩ := HXa.out
      clear HXa
      generalize wr.heap.size = sa at *
      generalize World.alloc _ _ = Va at *
      have c0 := x0.cell 0 rfl; have c1 := x0.cell 1 rfl; have c2 := x0.cell 2 rfl
      have d0 := x1.cell 0 rfl; have d1 := x1.cell 1 rfl; have d2 := x1.cell 2 rfl
      by_cases hu : 0 ≤ u
      · have HR := hid (hno (by rw [decide_eq_true hu]; rfl))
        clear hno htk HA HK
        go_wp2_with fail
        refine (hce _).mono ?_
        rintro e V1 ⟨rfl, hb3⟩
        replace hb2 := hb2.trans (hb3.mono hb2.size)
        replace hb := hb.trans (hb2.mono hb.size)
        clear q0 q1 q2 hce hcl c0 c1 c2 d0 d1 d2 x0 x1 hb3
        go_wp2
        go_ret
        exact ⟨ret_bool (by rw [HR.out]), hb⟩
      · have hu2 : u < 0 := by omega
        cases d
        · have HK2 := hid (show (s.take (k + 1)).all (fun g => offB g f) = true by rw [htk.out]; exact all_snoc3 HK.out (by show offB x f = true; rw [HO.out, decide_eq_false hu]; rfl))
          clear hno htk HK HA hu
          go_wp2_with fail
          refine (hce _).mono ?_
          rintro e V1 ⟨rfl, hb3⟩
          replace hb2 := hb2.trans (hb3.mono hb2.size)
          replace x0 := x0.below hb3
          replace x1 := x1.below hb3
          clear c0 c1 c2 d0 d1 d2 hb3 hce
          have c0 := x0.cell 0 rfl; have c1 := x0.cell 1 rfl; have c2 := x0.cell 2 rfl
          have d0 := x1.cell 0 rfl; have d1 := x1.cell 1 rfl; have d2 := x1.cell 2 rfl
          go_wp2_with fail
          refine (hcl _).mono ?_
          rintro e V2 ⟨rfl, hb3⟩
          replace hb2 := hb2.trans (hb3.mono hb2.size)
          clear q0 q1 q2 hcl c0 c1 c2 d0 d1 d2 x0 x1 hb3
          go_wp2
          go_roundw
          case rel => exact ⟨k + 1, by omega, by simp, HK2, hb2⟩
          case measure => simp [intOf]; omega
        · have HR := hid (hno (by simp))
          clear hno htk HK HA hu
          go_wp2_with fail
          refine (hce _).mono ?_
          rintro e V1 ⟨rfl, hb3⟩
          replace hb2 := hb2.trans (hb3.mono hb2.size)
          replace x0 := x0.below hb3
          replace x1 := x1.below hb3
          clear c0 c1 c2 d0 d1 d2 hb3 hce
          have c0 := x0.cell 0 rfl; have c1 := x0.cell 1 rfl; have c2 := x0.cell 2 rfl
          have d0 := x1.cell 0 rfl; have d1 := x1.cell 1 rfl; have d2 := x1.cell 2 rfl
          go_wp2_with fail
          refine (hcl _).mono ?_
          rintro e V2 ⟨rfl, hb3⟩
          replace hb2 := hb2.trans (hb3.mono hb2.size)
          replace hb := hb.trans (hb2.mono hb.size)
          clear q0 q1 q2 hcl c0 c1 c2 d0 d1 d2 x0 x1 hb3
          go_wp2
          go_ret
          exact ⟨ret_bool (by rw [HR.out]), hb⟩
    · have hkn : k = n := by omega
      have hall : s.all (fun g => offB g f) = true := by
        have := HK.out
        rwa [hkn, HLN.out, List.take_length] at this
      have HR := hid (HA hall)
      have hkI : ¬ (k : Int) < n := by omega
      replace hb := hb.trans (hb1.mono hb.size)
      clear hall hkn HA HN HK hX1 x0 hb1
      go_wp2
      go_ret
      exact ⟨ret_bool (by rw [HR.out]), hb⟩


def pG (L N : Int) (p : F3) : Bool := prB L N p.k p.a && fromI (-1) p.b (w64 (w64 (L * N) - 1))
theorem vB_len {L N F : Int} {P : List F3} (h : sizB L N P.length = false) : vB L N P F = false := by unfold vB; rw [h]; rfl
theorem vB_no {L N F : Int} {P : List F3} {x : F3} (hx : x ∈ P) (h : pG L N x = false) : vB L N P F = false := by
  have : presB L N P = false := by
    unfold presB
    rw [← Bool.not_eq_true, List.all_eq_true]
    intro hh
    have := hh x hx
    unfold pG at h
    rw [h] at this; cases this
  unfold vB; rw [this]; simp
theorem vB_all {L N F : Int} {P : List F3} (h : sizB L N P.length = true) (ha : P.all (pG L N) = true) : vB L N P F = fromI 0 F 3 := by
  have : presB L N P = true := ha
  unfold vB; rw [h, this]; rfl

set_option maxRecDepth 100000 in
set_option maxHeartbeats 4000000 in
theorem valid_any (L N : Int) (aP : Option Addr) (cP : Nat) (P : List F3) (F : Int) (w : World) (hX : P.length ≤ 1000 → Fz w aP P) (hl : P.length ≤ 9223372036854775807) : Calls Try.prog 54 #[.agg #[.int .i64 L, .int .i64 N, .slice aP P.length cP, .int .i64 F]] w fun e w' => e = .returned (.bool (vB L N P F)) ∧ Below w.heap.size w w' := by
  obtain ⟨W, hW, hb, _, x0⟩ := boxes1 w #[.int .i64 L, .int .i64 N, .slice aP P.length cP, .int .i64 F] 24
  have HL := fun h => vB_len (L := L) (N := N) (P := P) (F := F) h
  have HN := fun x hx h => vB_no (L := L) (N := N) (P := P) (F := F) (x := x) hx h
  have HA := fun h ha => vB_all (L := L) (N := N) (P := P) (F := F) h ha
  have hs0 : sizB L N P.length = ((fromI 1 L 5 && fromI 1 N 5) && decide (P.length ≤ 8)) := rfl
  obtain ⟨r, hr⟩ : ∃ r, r = vB L N P F := ⟨_, rfl⟩
  rw [← hr] at HL HN HA ⊢
  clear hr
  obtain ⟨n, hn⟩ : ∃ n, n = P.length := ⟨_, rfl⟩
  rw [← hn] at hl HL HA x0 hW hX hs0
  rw [← hn]
  have HLN := hid hn
  clear hn
  have hfl := isFrom_any 1 L 5 W
  have hfn := isFrom_any 1 N 5 W
  have c0 := x0.cell 0 rfl; have c1 := x0.cell 1 rfl; have c2 := x0.cell 2 rfl; have c3 := x0.cell 3 rfl
  obtain ⟨r1, hr1⟩ : ∃ r1, r1 = fromI 1 L 5 := ⟨_, rfl⟩
  obtain ⟨r2, hr2⟩ : ∃ r2, r2 = fromI 1 N 5 := ⟨_, rfl⟩
  rw [← hr1] at hfl hs0
  rw [← hr2] at hfn hs0
  cases r1
  · have HR := hid (HL (by rw [hs0]; rfl))
    clear HL HA HN hX hs0 hr1 hr2
    go_enter Try.func54, Try.ntmps54
    go_wp2_with fail
    refine hfl.mono ?_
    rintro e W1 ⟨rfl, rfl⟩
    clear hW
    go_wp2
    go_ret
    exact ⟨ret_bool (by rw [HR.out]), hb⟩
  · cases r2
    · have HR := hid (HL (by rw [hs0]; rfl))
      clear HL HA HN hX hs0 hr1 hr2
      go_enter Try.func54, Try.ntmps54
      go_wp2_with fail
      refine hfl.mono ?_
      rintro e W1 ⟨rfl, rfl⟩
      clear hW
      go_wp2_with fail
      refine hfn.mono ?_
      rintro e W1 ⟨rfl, rfl⟩
      go_wp2
      go_ret
      exact ⟨ret_bool (by rw [HR.out]), hb⟩
    · by_cases h8 : n ≤ 8
      · have h8I : (n : Int) ≤ 8 := by omega
        replace HA := HA (by rw [hs0, decide_eq_true h8]; rfl)
        have hX1 := (hX (by omega)).below hb (Nat.le_refl _)
        have hLN : (1 ≤ L ∧ L ≤ 5) ∧ (1 ≤ N ∧ N ≤ 5) := by
          have h1 := hr1.symm; have h2 := hr2.symm
          simp only [fromI, Bool.and_eq_true, decide_eq_true_eq] at h1 h2
          exact ⟨h1, h2⟩
        have HLNb := hid hLN
        have em : IntKind.i64.wrap (L * N) = w64 (L * N) := rfl
        have em2 : IntKind.i64.wrap (w64 (L * N) - 1) = w64 (w64 (L * N) - 1) := rfl
        have HPG : Hid (∀ x : F3, pG L N x = (prB L N x.k x.a && fromI (-1) x.b (w64 (w64 (L * N) - 1)))) := hid fun _ => rfl
        generalize w64 (w64 (L * N) - 1) = m2 at *
        generalize w64 (L * N) = m1 at *
        clear HL hX hs0 hr1 hr2 hLN
        go_enter Try.func54, Try.ntmps54
        go_wp2_with fail
        refine hfl.mono ?_
        rintro e W1 ⟨rfl, rfl⟩
        clear hW
        go_wp2_with fail
        refine hfn.mono ?_
        rintro e W1 ⟨rfl, rfl⟩
        go_wp2
        clear c0 c1 c2 c3
        go_loopw [4, 24] (fun v4 v24 wr => ∃ k : Nat, k ≤ n ∧ v24 = .int .i64 (k : Int) ∧ Hid ((P.take k).all (pG L N) = true) ∧ Below W.heap.size W wr) (fun _ v24 _ => n - (intOf v24).toNat)
        case atStart => exact ⟨0, Nat.zero_le _, rfl, hid rfl, Below.refl _ _⟩
        case round =>
          obtain ⟨k, hk, rfl, HK, hb1⟩ := hrel
          by_cases hlt : k < n
          · have hXr := hX1.below hb1 (Nat.le_refl _)
            obtain ⟨b, off, x, rfl, hbl, ⟨q0, q1, q2⟩, _, hmem, _, _, htk⟩ := hXr.at (k := k) (by rw [← HLN.out]; exact hlt)
            have hkI : (k : Int) < n := by omega
            have hk0 : (0 : Int) ≤ (k : Int) := by omega
            have hno := HN x hmem
            have hip := fun v => isPress_any L N (some ⟨b, off, none⟩) cP P F x.k x.a v
            rw [← HLN.out] at hip
            have hif := fun v => isFrom_any (-1) x.b m2 v
            rw [HPG.out x] at hno
            have HGx := hid (HPG.out x)
            generalize prB L N x.k x.a = g1 at *
            generalize fromI (-1) x.b m2 = g2 at *
            have hba := below_one (w := wr) (.cells #[.int .i64 x.k, .int .i64 x.a, .int .i64 x.b] 58)
            have hb2 := hb1.trans (hba.mono hb1.size)
            have x1 := Bx.new wr #[.int .i64 x.k, .int .i64 x.a, .int .i64 x.b] 58
            replace x0 := (x0.below hb1).below hba
            have HXa := hid (And.intro hb2 (And.intro x1 x0))
            clear hb1 hba hb2 x1 x0 hmem HN hXr
            go_upto_region 6 with fail
            obtain ⟨hb2, x1, x0⟩ := HXa.out
            clear HXa
            generalize wr.heap.size = sa at *
            generalize World.alloc _ _ = Va at *
            have c0 := x0.cell 0 rfl; have c1 := x0.cell 1 rfl; have c2 := x0.cell 2 rfl; have c3 := x0.cell 3 rfl
            have d0 := x1.cell 0 rfl; have d1 := x1.cell 1 rfl; have d2 := x1.cell 2 rfl
            cases g1
            · have HR := hid (hno rfl)
              clear hno htk HA HK
              go_wp2_with fail
              refine (hip _).mono ?_
              rintro e V1 ⟨rfl, hb3⟩
              replace hb2 := hb2.trans (hb3.mono hb2.size)
              replace hb := hb.trans (hb2.mono hb.size)
              clear q0 q1 q2 hip hif c0 c1 c2 c3 d0 d1 d2 x0 x1 hb3
              go_wp2
              go_ret
              exact ⟨ret_bool (by rw [HR.out]), hb⟩
            · cases g2
              · have HR := hid (hno rfl)
                clear hno htk HA HK
                go_wp2_with fail
                refine (hip _).mono ?_
                rintro e V1 ⟨rfl, hb3⟩
                replace hb2 := hb2.trans (hb3.mono hb2.size)
                replace hb := hb.trans (hb2.mono hb.size)
                replace x0 := x0.below hb3
                replace x1 := x1.below hb3
                clear q0 q1 q2 hip c0 c1 c2 c3 d0 d1 d2 hb3
                have c0 := x0.cell 0 rfl; have c1 := x0.cell 1 rfl; have c2 := x0.cell 2 rfl; have c3 := x0.cell 3 rfl
                have d0 := x1.cell 0 rfl; have d1 := x1.cell 1 rfl; have d2 := x1.cell 2 rfl
                go_wp2_with fail
                refine (hif _).mono ?_
                rintro e V1 ⟨rfl, rfl⟩
                go_wp2
                go_ret
                exact ⟨ret_bool (by rw [HR.out]), hb⟩
              · have HK2 := hid (show (P.take (k + 1)).all (pG L N) = true by rw [htk.out]; exact all_snoc3 HK.out (by rw [HGx.out]; rfl))
                clear hno htk HK HA
                go_wp2_with fail
                refine (hip _).mono ?_
                rintro e V1 ⟨rfl, hb3⟩
                replace hb2 := hb2.trans (hb3.mono hb2.size)
                replace x0 := x0.below hb3
                replace x1 := x1.below hb3
                clear q0 q1 q2 hip c0 c1 c2 c3 d0 d1 d2 hb3
                have c0 := x0.cell 0 rfl; have c1 := x0.cell 1 rfl; have c2 := x0.cell 2 rfl; have c3 := x0.cell 3 rfl
                have d0 := x1.cell 0 rfl; have d1 := x1.cell 1 rfl; have d2 := x1.cell 2 rfl
                go_wp2_with fail
                refine (hif _).mono ?_
                rintro e V1 ⟨rfl, rfl⟩
                clear c0 c1 c2 c3 d0 d1 d2 x0 x1 hif
                go_wp2
                go_roundw
                case rel => exact ⟨k + 1, by omega, by simp, HK2, hb2⟩
                case measure => simp [intOf]; omega
          · have hkn : k = n := by omega
            have hall : P.all (pG L N) = true := by
              have := HK.out
              rwa [hkn, HLN.out, List.take_length] at this
            have HR := HA hall
            have hce := isFrom_any 0 F 3 wr
            rw [← HR] at hce
            have hkI : ¬ (k : Int) < n := by omega
            replace x0 := x0.below hb1
            have hbr := hb.trans (hb1.mono hb.size)
            have c0 := x0.cell 0 rfl; have c1 := x0.cell 1 rfl; have c2 := x0.cell 2 rfl; have c3 := x0.cell 3 rfl
            clear HR hall hkn HA HN HK hX1 x0
            go_wp2_with fail
            refine hce.mono ?_
            rintro e V1 ⟨rfl, rfl⟩
            go_wp2
            go_ret
            exact ⟨rfl, hbr⟩
      · have h8I : (8 : Int) < (n : Int) := by omega
        have HR := hid (HL (by rw [hs0, decide_eq_false h8]; rfl))
        clear HL HA HN hX hs0 hr1 hr2 h8
        go_enter Try.func54, Try.ntmps54
        go_wp2_with fail
        refine hfl.mono ?_
        rintro e W1 ⟨rfl, rfl⟩
        clear hW
        go_wp2_with fail
        refine hfn.mono ?_
        rintro e W1 ⟨rfl, rfl⟩
        go_wp2
        go_ret
        exact ⟨ret_bool (by rw [HR.out]), hb⟩


/-- The error of a box that is asked for something. -/
def chE (L N : Int) (P : List F3) (F : Int) (o : Bool) : Int := if vB L N P F then (if o then 0 else 1) else 110
set_option maxRecDepth 100000 in
set_option maxHeartbeats 2000000 in
theorem check_any (L N : Int) (aP : Option Addr) (cP : Nat) (P : List F3) (F : Int) (o : Bool) (w : World) (hX : P.length ≤ 1000 → Fz w aP P) (hl : P.length ≤ 9223372036854775807) : Calls Try.prog 56 #[.agg #[.int .i64 L, .int .i64 N, .slice aP P.length cP, .int .i64 F], .bool o] w fun e w' => e = .returned (.int .i64 (chE L N P F o)) ∧ Below w.heap.size w w' := by
  obtain ⟨W, hW, hb, _, x0⟩ := boxes1 w #[.int .i64 L, .int .i64 N, .slice aP P.length cP, .int .i64 F] 24
  have hv := valid_any L N aP cP P F W (fun h => (hX h).below hb (Nat.le_refl _)) hl
  unfold chE
  generalize vB L N P F = r at *
  have c0 := x0.cell 0 rfl; have c1 := x0.cell 1 rfl; have c2 := x0.cell 2 rfl; have c3 := x0.cell 3 rfl
  cases r
  · go_enter Try.func56, Try.ntmps56
    go_wp2_with fail
    refine hv.mono ?_
    rintro e W1 ⟨rfl, hb1⟩
    replace hb := hb.trans (hb1.mono hb.size)
    clear hW hb1 c0 c1 c2 c3 x0
    go_wp2
    go_ret
    exact ⟨rfl, hb⟩
  · cases o
    all_goals
      go_enter Try.func56, Try.ntmps56
      go_wp2_with fail
      refine hv.mono ?_
      rintro e W1 ⟨rfl, hb1⟩
      replace hb := hb.trans (hb1.mono hb.size)
      clear hW hb1 c0 c1 c2 c3 x0
      go_wp2
      go_ret
      exact ⟨rfl, hb⟩
set_option maxRecDepth 100000 in
set_option maxHeartbeats 2000000 in
theorem Check_any (L N : Int) (aP : Option Addr) (cP : Nat) (P : List F3) (F : Int) (w : World) (hX : P.length ≤ 1000 → Fz w aP P) (hl : P.length ≤ 9223372036854775807) : Calls Try.prog 16 #[.agg #[.int .i64 L, .int .i64 N, .slice aP P.length cP, .int .i64 F]] w fun e w' => e = .returned (.int .i64 (chE L N P F true)) ∧ Below w.heap.size w w' := by
  obtain ⟨W, hW, hb, _, x0⟩ := boxes1 w #[.int .i64 L, .int .i64 N, .slice aP P.length cP, .int .i64 F] 24
  have hv := valid_any L N aP cP P F W (fun h => (hX h).below hb (Nat.le_refl _)) hl
  unfold chE
  generalize vB L N P F = r at *
  have c0 := x0.cell 0 rfl; have c1 := x0.cell 1 rfl; have c2 := x0.cell 2 rfl; have c3 := x0.cell 3 rfl
  cases r
  all_goals
    go_enter Try.func16, Try.ntmps16
    go_wp2_with fail
    refine hv.mono ?_
    rintro e W1 ⟨rfl, hb1⟩
    replace hb := hb.trans (hb1.mono hb.size)
    clear hW hb1 c0 c1 c2 c3 x0
    go_wp2
    go_ret
    exact ⟨rfl, hb⟩
end Go.Proofs.Ytmpihcencnkpbaa
