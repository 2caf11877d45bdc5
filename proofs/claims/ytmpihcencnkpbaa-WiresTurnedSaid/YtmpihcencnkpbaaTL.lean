import Derived.Test.YtmpihcencnkpbaaTK
/-! With: a box with one more press. -/
namespace Go.Proofs.Ytmpihcencnkpbaa
set_option linter.unusedSimpArgs false
set_option linter.unusedVariables false
open Go Go.RowKit

/-- What With hands back. -/
def WtP (L N : Int) (P : List F3) (p : F3) (F : Int) (w : World) (e : Ending) (w' : World) : Prop :=
  Below w.heap.size w w' ∧ ∃ (a : Option Addr) (c : Nat), e = .returned (.agg #[.int .i64 L, .int .i64 N, .slice a (P.length + 1) c, .int .i64 F]) ∧ Fz w' a (P ++ [p])
theorem bx_gro2 {w w' : World} {b : Nat} {r : Option Nat} {vs : Array Value} {T : TypeId} (h : Bx w b vs T) (hg : w.grownBy w' r) (hne : r ≠ some b) : Bx w' b vs T := by
  have hl := h.lt
  unfold Bx at *
  rw [hg.block b hl (Ne.symm hne)]; exact h

set_option maxRecDepth 100000 in
set_option maxHeartbeats 3000000 in
theorem With_any (L N : Int) (aP : Option Addr) (cP : Nat) (P : List F3) (F : Int) (p : F3) (w : World) (hX : Fz w aP P) (h7 : P.length ≤ 7) (hp : p.i64) : Calls Try.prog 49 #[.agg #[.int .i64 L, .int .i64 N, .slice aP P.length cP, .int .i64 F], .agg #[.int .i64 p.k, .int .i64 p.a, .int .i64 p.b]] w (WtP L N P p F w) := by
  obtain ⟨i0, hi0, iz0, iz1, iz2⟩ := info_parts info58
  have hPi := hid hX.2.1
  have hPI := hid hp
  unfold WtP
  obtain ⟨n, hn⟩ : ∃ n, n = P.length := ⟨_, rfl⟩
  have HN := hid hn
  have hcp := fun V (h : Fz V aP P) => Copy_any L N aP cP P F V h
  unfold CpP at hcp
  rw [← hn] at h7 hcp ⊢
  clear hn hp
  obtain ⟨W, hW, hb, hs, x0, x1, x2⟩ := boxes3 w #[.int .i64 L, .int .i64 N, .slice aP n cP, .int .i64 F] 24 #[.int .i64 p.k, .int .i64 p.a, .int .i64 p.b] 58 #[.int .i64 0, .int .i64 0, .slice none 0 0, .int .i64 0] 24
  have hXW := hX.below hb (Nat.le_refl _)
  go_enter Try.func49, Try.ntmps49
  go_upto_region 1 with fail

  clear hW hX
  have c0 := x0.cell 0 rfl; have c1 := x0.cell 1 rfl; have c2 := x0.cell 2 rfl; have c3 := x0.cell 3 rfl
  go_wp2_with fail
  refine (hcp _ hXW).mono ?_
  rintro e V ⟨hb1, a, c, rfl, hown⟩
  clear c0 c1 c2 c3 hcp hXW x0
  replace x1 := x1.below hb1
  replace x2 := x2.below hb1
  have hs1 := hb1.size
  have hbV := hb.trans (hb1.mono hb.size)
  have hgt := fun k hk => (hown.lt k hk).2
  have hba := below_one (w := V) (.cells #[.int .i64 L, .int .i64 N, .slice a n c, .int .i64 F] 24)
  have HXa := hid (And.intro (x1.below hba) (And.intro (x2.below hba) (And.intro (own_below2 hown hba) (And.intro (hbV.trans (hba.mono hbV.size)) (And.intro (Bx.new V #[.int .i64 L, .int .i64 N, .slice a n c, .int .i64 F] 24) (And.intro hba.size hgt))))))
  clear hba hown hbV x1 x2 hb hb1 hgt
  go_upto_region 2 with fail
  obtain ⟨x1, x2, hown, hb, x3, hsz, hgt⟩ := HXa.out
  clear HXa
  have hltV := x3.lt
  obtain ⟨s3, hs3⟩ : ∃ s3, s3 = V.heap.size := ⟨_, rfl⟩
  rw [← hs3] at x3 hsz hgt hs1 hltV ⊢
  obtain ⟨s0, hs0⟩ : ∃ s0, s0 = W.heap.size := ⟨_, rfl⟩
  rw [← hs0] at hown hs1 hs
  generalize World.alloc _ _ = Va at *
  clear hs3 hs0
  have hbl := below_one (w := Va) (.cells #[.int .i64 p.k, .int .i64 p.a, .int .i64 p.b] 58)
  have hcls := Cls.of_bx (Bx.new Va #[.int .i64 p.k, .int .i64 p.a, .int .i64 p.b] 58)
  have hown1 := own_below2 hown hbl
  have hge := own_ge2 hown
  have y2 := x2.below hbl
  have y3 := x3.below hbl
  have yb := hb.trans (hbl.mono hb.size)
  have HXb := hid (And.intro y2 (And.intro y3 (And.intro yb hge)))
  have hszl : (Va.alloc (.cells #[.int .i64 p.k, .int .i64 p.a, .int .i64 p.b] 58)).heap.size = Va.heap.size + 1 := by simp
  clear hbl hge y2 y3 yb x2 hb hown
  have d0 := x1.cell 0 rfl; have d1 := x1.cell 1 rfl; have d2 := x1.cell 2 rfl
  have c0 := x3.cell 0 rfl; have c1 := x3.cell 1 rfl; have c2 := x3.cell 2 rfl; have c3 := x3.cell 3 rfl
  clear x3
  go_wp2_with (at_builtin
               refine wpList_appAt rfl (.tmp 9) (.tmp 11) 22 rfl s0 58 i0 (.agg #[.int .i64 0, .int .i64 0, .int .i64 0]) 3 24 under22 hi0 iz0 iz1 iz2 rfl (by decide) (.slice a n c) n _ rfl hown1 (some ⟨Va.heap.size, 0, none⟩) 1 1 [.int .i64 p.k, .int .i64 p.a, .int .i64 p.b] rfl rfl hcls (fcells_one [p]) (by unfold maxLen; omega) (by omega) (by simp; omega) ?_
               intro v3 W3 hown3 hg3 hat
               obtain ⟨x2, x3, hb, hge⟩ := HXb.out
               obtain ⟨a3, k3, rfl⟩ := own_slice2 hown3
               clear d0 d1 d2 c0 c1 c2 c3
               have x3p := bx_gro2 x3 hg3 (fun e => by have := hgt _ e; omega)
               have x2p := bx_gro2 x2 hg3 (fun e => by have := hge _ e; omega)
               have hb3 : Below w.heap.size w W3 := hb.grown hg3 (by simp; omega) (fun k hk => by have := hge k hk; omega)
               have hne3 : ∀ k, (Value.slice a3 (n + 1) k3).ownBlock = some k → s0 ≤ k ∧ k ≠ s3 := fun k hk => by
                 refine ⟨own_ge2 hown3 k hk, ?_⟩
                 rcases hat with h | h
                 · rw [h] at hk; have := hgt k hk; omega
                 · rw [h] at hk
                   have hk2 : (Va.alloc (.cells #[.int .i64 p.k, .int .i64 p.a, .int .i64 p.b] 58)).heap.size = k := by simpa using hk
                   omega
               have hf3 : Fz W3 a3 (P ++ [p]) := cp_row (B := s0) (n := n + 1) (c := k3) (by rw [fcells_app]; exact hown3) (by rw [List.length_append, ← HN.out]; rfl) (fun x hx => by
                 rcases List.mem_append.1 hx with h | h
                 · exact hPi.out x h
                 · rw [List.mem_singleton.1 h]; exact hPI.out) (by rw [List.length_append, ← HN.out, List.length_singleton]; omega)
               have hnb : ∀ ad, a3 = some ad → s0 ≤ ad.block ∧ ad.block ≠ s3 := fun ad e => hne3 ad.block (by rw [e]; rfl)
               have y3 : Bx (W3.setCell ⟨s3, 2, none⟩ (.slice a3 (n + 1) k3)) s3 #[.int .i64 L, .int .i64 N, .slice a3 (n + 1) k3, .int .i64 F] 24 := by simpa using x3p.set 2 (.slice a3 (n + 1) k3)
               have y2 := x2p.other (a := ⟨s3, 2, none⟩) (by show w.heap.size + 1 + 1 ≠ s3; omega) (.slice a3 (n + 1) k3)
               have yb := hb3.setCell (p := ⟨s3, 2, none⟩) (by show w.heap.size ≤ s3; omega) (.slice a3 (n + 1) k3)
               have yf := hf3.set (p := ⟨s3, 2, none⟩) (fun ad e => (hnb ad e).2) (.slice a3 (n + 1) k3)
               have hg := gput4 (W3.setCell ⟨s3, 2, none⟩ (.slice a3 (n + 1) k3)) (w.heap.size + 1 + 1) (.int .i64 L) (.int .i64 N) (.slice a3 (n + 1) k3) (.int .i64 F)
               have z1 := y2.set4 (.int .i64 L) (.int .i64 N) (.slice a3 (n + 1) k3) (.int .i64 F)
               have zb := below_put4 yb (b := w.heap.size + 1 + 1) (by omega) (.int .i64 L) (.int .i64 N) (.slice a3 (n + 1) k3) (.int .i64 F)
               have zf := yf.gro hg (fun ad e h => by have := hnb ad e; have := Option.some.inj h; omega)
               have HZ := hid (And.intro z1 (And.intro zb zf))
               have e2 := x3p.cell 2 rfl
               have f2 := x3p.free 2
               have c0 := y3.cell 0 rfl
               have c1 := y3.cell 1 rfl
               have c2 := y3.cell 2 rfl
               have c3 := y3.cell 3 rfl
               have d0 := y2.cell 0 rfl
               have d1 := y2.cell 1 rfl
               have d2 := y2.cell 2 rfl
               have d3 := y2.cell 3 rfl
               have q0 := y2.free 0
               have q1 := y2.free 1
               have q2 := y2.free 2
               have q3 := y2.free 3
               clear x1 x2 x3 x2p x3p y2 y3 yb yf hb3 hf3 hne3 hat hg3 hown3 hown1 hb hge hgt hcls HXb hszl hsz hltV hg z1 zb zf hnb)
  obtain ⟨z1, zb, zf⟩ := HZ.out
  clear HZ c0 c1 c2 c3 d0 d1 d2 d3 q0 q1 q2 q3 e2 f2
  generalize World.setCell _ _ _ = V4 at *
  have e0 := z1.cell 0 rfl; have e1 := z1.cell 1 rfl; have e2 := z1.cell 2 rfl; have e3 := z1.cell 3 rfl
  refine bodyPost_ret (v := .agg #[.int .i64 L, .int .i64 N, .slice a3 (n + 1) k3, .int .i64 F]) ?_ rfl ⟨zb, a3, k3, rfl, zf⟩
  simp [results, Try.results49, go_sem, e0, e1, e2, e3]

/-- How many of a list lie before a number, each number from -1 on counted; the most of them. -/
def smC (Q : List Int) : Nat → Nat
  | 0 => 0
  | j + 1 => smC Q j + Q.count ((j : Int) - 1)
def mxC (Q : List Int) : Nat → Nat
  | 0 => 0
  | j + 1 => max (mxC Q j) (Q.count ((j : Int) - 1))
theorem smC_cons (x : Int) (Q : List Int) (hx : -1 ≤ x) : ∀ j : Nat, smC (x :: Q) j = smC Q j + if x + 1 < (j : Int) then 1 else 0
  | 0 => by rw [if_neg (by omega)]; rfl
  | j + 1 => by
    have h := smC_cons x Q hx j
    rw [smC, smC, h, List.count_cons]
    simp only [beq_iff_eq]
    split <;> split <;> split <;> omega
theorem smC_all {m : Nat} : ∀ (Q : List Int), (∀ x ∈ Q, -1 ≤ x ∧ x + 1 < (m : Int)) → smC Q m = Q.length
  | [], _ => by
    have : ∀ j, smC [] j = 0 := fun j => by induction j with
      | zero => rfl
      | succ j ih => rw [smC, ih]; rfl
    rw [this]; rfl
  | x :: Q, h => by
    obtain ⟨h1, h2⟩ := h x List.mem_cons_self
    rw [smC_cons x Q h1, if_pos h2, smC_all Q (fun y hy => h y (List.mem_cons_of_mem _ hy))]; rfl
theorem smC_le (Q : List Int) (hQ : ∀ x ∈ Q, -1 ≤ x) : ∀ j, smC Q j ≤ Q.length := fun j => by
  induction Q with
  | nil =>
    have : ∀ j, smC [] j = 0 := fun j => by induction j with
      | zero => rfl
      | succ j ih => rw [smC, ih]; rfl
    rw [this]; exact Nat.zero_le _
  | cons x Q ih =>
    rw [smC_cons x Q (hQ x List.mem_cons_self), List.length_cons]
    have := ih (fun y hy => hQ y (List.mem_cons_of_mem _ hy))
    split <;> omega
theorem mxC_ge (Q : List Int) : ∀ (j i : Nat), i < j → Q.count ((i : Int) - 1) ≤ mxC Q j
  | 0, i, h => by omega
  | j + 1, i, h => by
    rw [mxC]
    rcases Nat.lt_or_ge i j with h1 | h1
    · have := mxC_ge Q j i h1; omega
    · obtain rfl : i = j := by omega
      omega
theorem mxC_at (Q : List Int) : ∀ j, mxC Q j = 0 ∨ ∃ x ∈ Q, Q.count x = mxC Q j
  | 0 => .inl rfl
  | j + 1 => by
    rw [mxC]
    rcases Nat.lt_or_ge (mxC Q j) (Q.count ((j : Int) - 1)) with h | h
    · refine .inr ⟨(j : Int) - 1, List.count_pos_iff.1 (by omega), by omega⟩
    · rw [Nat.max_eq_left h]; exact mxC_at Q j
theorem mxC_all {Q : List Int} {m : Nat} (h : ∀ x ∈ Q, -1 ≤ x ∧ x + 1 < (m : Int)) : mxC Q m = mxL Q := by
  refine mxL_eq (fun x hx => ?_) (mxC_at Q m)
  obtain ⟨h1, h2⟩ := h x hx
  have := mxC_ge Q m (x + 1).toNat (by omega)
  rwa [show (((x + 1).toNat : Nat) : Int) - 1 = x by omega] at this

theorem vB_snoc {L N F l n g : Int} {P : List F3} (h : vB L N P F = true) (h7 : P.length ≤ 7) (hp : prB L N l n = true) (hg : -1 ≤ g ∧ g < L * N) : vB L N (P ++ [⟨l, n, g⟩]) F = true := by
  obtain ⟨hL, hN, _, hF, hpr⟩ := vB_siz h
  have h3 : L * N ≤ 5 * 5 := Int.mul_le_mul hL.2 hN.2 (by omega) (by omega)
  have h4 := Int.mul_nonneg (show 0 ≤ L by omega) (show 0 ≤ N by omega)
  unfold vB sizB at h ⊢
  unfold presB at hpr
  simp only [Bool.and_eq_true, decide_eq_true_eq] at h
  obtain ⟨⟨⟨⟨h1, h2⟩, _⟩, _⟩, h5⟩ := h
  have hq : presB L N (P ++ [⟨l, n, g⟩]) = true := by
    unfold presB
    rw [List.all_append, hpr]
    simp only [List.all_cons, List.all_nil, Bool.and_true, Bool.true_and, hp]
    rw [w64_in (x := L * N) (by omega), w64_in (x := L * N - 1) (by omega)]
    unfold fromI
    simp only [Bool.and_eq_true, decide_eq_true_eq]; omega
  simp only [Bool.and_eq_true, decide_eq_true_eq]
  exact ⟨⟨⟨⟨h1, h2⟩, by rw [List.length_append, List.length_singleton]; omega⟩, hq⟩, h5⟩
theorem truL_snoc (L N F l n g : Int) (P : List F3) : (truL L N (P ++ [⟨l, n, g⟩]) F).length = (plL N (truL L N P F) l n).count g := by
  unfold truL plL
  rw [List.count_eq_countP, List.countP_map, List.countP_eq_length_filter, List.filter_filter]
  congr 1
  refine List.filter_congr fun s _ => ?_
  unfold exB
  rw [List.all_append, Bool.and_comm]
  congr 1
  simp
  rfl
theorem akT_len {L N F : Int} {Q : List F3} (hv : vB L N Q F = true) : (akT L N Q F true).length = (truL L N Q F).length ∧ akE L N Q F true = if (truL L N Q F).length = 0 then 3 else 0 := by
  have hc : chE L N Q F true = 0 := by unfold chE; rw [hv]; rfl
  by_cases h : truL L N Q F = []
  · have e : akE L N Q F true = 3 := by unfold akE; rw [if_pos hc, if_pos h]
    refine ⟨by rw [akT_no (by rw [e]; omega), h], by rw [e, h]; rfl⟩
  · have e : akE L N Q F true = 0 := by unfold akE; rw [if_pos hc, if_neg h]
    refine ⟨by rw [(akE_ok e).2.2.2], ?_⟩
    rw [e, if_neg (fun k => h (List.length_eq_zero_iff.1 k))]
/-- What is true of one more press. -/
theorem press_law {L N F l n : Int} {P : List F3} (hr : rdB L N P F = true) (hp : prB L N l n = true) : lfE L N P F l n = akE L N P F true ∧ (akE L N P F true = 3 ∨ (akE L N P F true = 0 ∧
    (akT L N P F true).length = (plL N (truL L N P F) l n).length ∧ lfR L N P F l n = mxL (plL N (truL L N P F) l n) ∧ shR L N P F l n = shV (plL N (truL L N P F) l n) ∧ (∀ x ∈ plL N (truL L N P F) l n, -1 ≤ x ∧ x < L * N) ∧ (plL N (truL L N P F) l n).length ≤ 900000)) := by
  obtain ⟨hv, _, _, _⟩ := rdB_ok hr
  obtain ⟨hL, hN, _⟩ := vB_siz hv
  obtain ⟨hl, hn⟩ := prB_rng hL hN hp
  have hE : lfE L N P F l n = akE L N P F true := by unfold lfE; rw [hp]
  refine ⟨hE, ?_⟩
  rcases akE_two hv with h0 | h3
  · right
    have h0' : lfE L N P F l n = 0 := by rw [hE]; exact h0
    obtain ⟨hO, hTl⟩ := tru_ok hv
    refine ⟨h0, ?_, by unfold lfR; rw [if_pos h0'], by unfold shR; rw [if_pos h0'], fun x hx => ?_, by unfold plL; rw [List.length_map]; exact hTl⟩
    · rw [(akE_ok h0).2.2.2]; unfold plL; rw [List.length_map]
    · obtain ⟨s, hs, rfl⟩ := List.mem_map.1 hx
      have h1 := plV_rng hN.1 (hO s hs) hl hn
      omega
  · exact .inl h3
/-- What Many says with one more press. -/
theorem more_press {L N F l n g : Int} {P : List F3} (hr : rdB L N P F = true) (h7 : P.length ≤ 7) (hp : prB L N l n = true) (hg : -1 ≤ g ∧ g < L * N) : (akT L N (P ++ [⟨l, n, g⟩]) F true).length = (plL N (truL L N P F) l n).count g ∧ akE L N (P ++ [⟨l, n, g⟩]) F true = if (plL N (truL L N P F) l n).count g = 0 then 3 else 0 := by
  obtain ⟨h1, h2⟩ := akT_len (vB_snoc (rdB_ok hr).1 h7 hp hg)
  rw [truL_snoc] at h1 h2
  exact ⟨h1, h2⟩

end Go.Proofs.Ytmpihcencnkpbaa
