import Derived.Test.YtmpihcencnkpbaaTJ
/-! WiresFirst: its walk. -/
namespace Go.Proofs.Ytmpihcencnkpbaa
set_option linter.unusedSimpArgs false
set_option linter.unusedVariables false
open Go Go.RowKit

/-- A copy, and where its presses lie. -/
def CpV (L N : Int) (P : List F3) (F : Int) (n : Nat) (v : Value) (w : World) : Prop := ∃ (a : Option Addr) (c : Nat), v = .agg #[.int .i64 L, .int .i64 N, .slice a n c, .int .i64 F] ∧ n ≤ c ∧ Fz w a P ∧ ∀ g, (Value.slice a n c).ownBlock = some g → g < w.heap.size ∧ ∃ cur, w.heap[g]? = some (.cells cur 58 (0, 0))
theorem CpV.below {L N F : Int} {P : List F3} {n : Nat} {v : Value} {w w' : World} (h : CpV L N P F n v w) (hb : Below w.heap.size w w') : CpV L N P F n v w' := by
  obtain ⟨a, c, e, h1, h2, h3⟩ := h
  refine ⟨a, c, e, h1, h2.below hb (Nat.le_refl _), fun g hg => ?_⟩
  obtain ⟨k1, cur, k2⟩ := h3 g hg
  exact ⟨by have := hb.size; omega, cur, by rw [hb.block g k1]; exact k2⟩
theorem CpV.of_own {L N F : Int} {P : List F3} {n c B : Nat} {a : Option Addr} {w : World} (h : w.ownsRow B 58 3 (.slice a n c) n (fcells P)) (hn : n = P.length) (hX : ∀ x ∈ P, x.i64) (hl : P.length ≤ 1000) : CpV L N P F n (.agg #[.int .i64 L, .int .i64 N, .slice a n c, .int .i64 F]) w := by
  refine ⟨a, c, rfl, ?_, cp_row h hn hX hl, fun g hg => ⟨(h.lt g hg).2, ?_⟩⟩
  · rcases h.2 with ⟨h', h0⟩ | ⟨g, cap, cur, h', _, _, hc, _⟩
    · omega
    · simp only [Value.slice.injEq] at h'
      omega
  · rcases h.2 with ⟨h', _⟩ | ⟨g', cap, cur, h', _, h3, _⟩
    · simp only [Value.slice.injEq] at h'
      rw [h'.1] at hg; cases hg
    · rw [h'] at hg
      have e : g' = g := by simpa [Value.ownBlock] using hg
      exact ⟨cur, by rw [← e]; exact h3⟩
/-- A box that is new. -/
def AlV (B : Nat) (v : Value) (w : World) : Prop := ∃ b, v = .pointer (some ⟨b, 0, none⟩) ∧ B ≤ b ∧ Bx w b #[.int .i64 0, .int .i64 0, .slice none 0 0, .int .i64 0] 24
theorem AlV.below {B : Nat} {v : Value} {w w' : World} (h : AlV B v w) (hb : Below w.heap.size w w') : AlV B v w' := by
  obtain ⟨b, h1, h2, h3⟩ := h
  exact ⟨b, h1, h2, h3.below hb⟩
/-- What has been made so far. -/
structure FsI (L N : Int) (P : List F3) (F : Int) (n B : Nat) (s : Array Bool) (u : Nat → Value) (w : World) : Prop where
  c1 : s.getD 1 false = true → CpV L N P F n (u 1) w
  c3 : s.getD 3 false = true → CpV L N P F n (u 3) w
  b4 : s.getD 4 false = true → AlV B (u 4) w
  b5 : s.getD 5 false = true → AlV B (u 5) w
  ne : s.getD 4 false = true → s.getD 5 false = true → u 4 ≠ u 5
theorem FsI.call1 {L N F : Int} {P : List F3} {n B : Nat} {s : Array Bool} {u : Nat → Value} {w w' : World} (h : FsI L N P F n B s u w) (hb : Below w.heap.size w w') {v : Value} (hv : CpV L N P F n v w') : FsI L N P F n B (s.setIfInBounds 1 true) (updU u 1 v) w' :=
  ⟨fun _ => hv, fun k => (h.c3 (sd_of (by omega) k)).below hb, fun k => (h.b4 (sd_of (by omega) k)).below hb, fun k => (h.b5 (sd_of (by omega) k)).below hb, fun k l => h.ne (sd_of (by omega) k) (sd_of (by omega) l)⟩
theorem FsI.call3 {L N F : Int} {P : List F3} {n B : Nat} {s : Array Bool} {u : Nat → Value} {w w' : World} (h : FsI L N P F n B s u w) (hb : Below w.heap.size w w') {v : Value} (hv : CpV L N P F n v w') : FsI L N P F n B (s.setIfInBounds 3 true) (updU u 3 v) w' :=
  ⟨fun k => (h.c1 (sd_of (by omega) k)).below hb, fun _ => hv, fun k => (h.b4 (sd_of (by omega) k)).below hb, fun k => (h.b5 (sd_of (by omega) k)).below hb, fun k l => h.ne (sd_of (by omega) k) (sd_of (by omega) l)⟩
theorem ptr_ne {B b : Nat} {v : Value} {w : World} (h : AlV B v w) (hb : b = w.heap.size) : v ≠ .pointer (some ⟨b, 0, none⟩) := fun e => by
  obtain ⟨c, e2, _, h3⟩ := h
  rw [e2] at e
  have := h3.lt
  simp at e
  try omega
theorem FsI.box4 {L N F : Int} {P : List F3} {n B : Nat} {s : Array Bool} {u : Nat → Value} {w : World} (h : FsI L N P F n B s u w) (hB : B ≤ w.heap.size) : FsI L N P F n B (s.setIfInBounds 4 true) (updU u 4 (.pointer (some ⟨w.heap.size, 0, none⟩))) (w.alloc (.cells #[.int .i64 0, .int .i64 0, .slice none 0 0, .int .i64 0] 24)) :=
  have hb := below_one (w := w) (.cells #[.int .i64 0, .int .i64 0, .slice none 0 0, .int .i64 0] 24)
  ⟨fun k => (h.c1 (sd_of (by omega) k)).below hb, fun k => (h.c3 (sd_of (by omega) k)).below hb, fun _ => ⟨_, rfl, hB, Bx.new _ _ _⟩, fun k => (h.b5 (sd_of (by omega) k)).below hb, fun _ l => (ptr_ne (h.b5 (sd_of (by omega) l)) rfl).symm⟩
theorem FsI.box5 {L N F : Int} {P : List F3} {n B : Nat} {s : Array Bool} {u : Nat → Value} {w : World} (h : FsI L N P F n B s u w) (hB : B ≤ w.heap.size) : FsI L N P F n B (s.setIfInBounds 5 true) (updU u 5 (.pointer (some ⟨w.heap.size, 0, none⟩))) (w.alloc (.cells #[.int .i64 0, .int .i64 0, .slice none 0 0, .int .i64 0] 24)) :=
  have hb := below_one (w := w) (.cells #[.int .i64 0, .int .i64 0, .slice none 0 0, .int .i64 0] 24)
  ⟨fun k => (h.c1 (sd_of (by omega) k)).below hb, fun k => (h.c3 (sd_of (by omega) k)).below hb, fun k => (h.b4 (sd_of (by omega) k)).below hb, fun _ => ⟨_, rfl, hB, Bx.new _ _ _⟩, fun k _ => ptr_ne (h.b4 (sd_of (by omega) k)) rfl⟩
theorem cp_ne {w : World} {a : Option Addr} {n c b : Nat} {vs : Array Value} (hg : ∀ g, (Value.slice a n c).ownBlock = some g → g < w.heap.size ∧ ∃ cur, w.heap[g]? = some (.cells cur 58 (0, 0))) (x : Bx w b vs 24) : ∀ ad, a = some ad → ad.block ≠ b := fun ad e h => by
  obtain ⟨_, cur, h2⟩ := hg ad.block (by rw [e]; rfl)
  unfold Bx at x
  rw [h, x] at h2
  simp at h2
theorem bx_gro {w w' : World} {b r : Nat} {vs : Array Value} {T : TypeId} (h : Bx w b vs T) (hg : w.grownBy w' (some r)) (hne : b ≠ r) : Bx w' b vs T := by
  have hl := h.lt
  unfold Bx at *
  rw [hg.block b hl (fun e => hne (by simpa using e))]; exact h
/-- What stays while they are made. -/
structure FsS (L N : Int) (aP : Option Addr) (cP : Nat) (P : List F3) (F : Int) (n s0 : Nat) (w1 : World) (w : World) : Prop where
  x0 : Bx w s0 #[.int .i64 L, .int .i64 N, .slice aP n cP, .int .i64 F] 24
  hp : Fz w aP P
  bl : Below w1.heap.size w1 w
theorem FsS.below {L N F : Int} {aP : Option Addr} {cP n s0 : Nat} {P : List F3} {w1 w w' : World} (h : FsS L N aP cP P F n s0 w1 w) (hb : Below w.heap.size w w') : FsS L N aP cP P F n s0 w1 w' :=
  ⟨h.x0.below hb, h.hp.below hb (Nat.le_refl _), h.bl.trans (hb.mono h.bl.size)⟩

section
variable {P : Program} {S : World → Prop} {Q : Exit → Act → World → Prop}
theorem HeadAt.rg4 {l : List Oper} {n f0 : Nat} {s0 : Array Bool} (idx : List Nat) (k : Nat) (A : (Nat → Value) → Act) (I : Array Bool → (Nat → Value) → World → Prop) (u0 : Nat → Value)
    (hb : chkRg l.toArray n idx (idx.foldl (fun s i => s.setIfInBounds i true) s0) k s0 = true)
    (hstep : ∀ i, i ∈ idx → ∀ o, l.toArray[i]? = some o → ∀ (s : Array Bool) (u : Nat → Value) (w : World), S w → I s u w → s.getD i false = false → (∀ j, predB l.toArray j i = true → s.getD j false = true) →
      wpList P l.toArray (Upto (fun a' w' => ∃ v, a' = A (updU u i v) ∧ S w' ∧ I (s.setIfInBounds i true) (updU u i v) w') (NoPanic Q)) [o] (A u) w)
    (hdone : ∀ (u : Nat → Value) (w : World), S w → I (idx.foldl (fun s i => s.setIfInBounds i true) s0) u w → HeadAt P l Q S n f0 (idx.foldl (fun s i => s.setIfInBounds i true) s0) (A u) w)
    {w : World} (hw : S w) (hI : I s0 u0 w) : HeadAt P l Q S n (f0 + k) s0 (A u0) w := by
  generalize idx.foldl (fun s i => s.setIfInBounds i true) s0 = s1 at *
  suffices h : ∀ (k : Nat) (s : Array Bool) (u : Nat → Value) (w : World), chkRg l.toArray n idx s1 k s = true → S w → I s u w → HeadAt P l Q S n (f0 + k) s (A u) w from h k s0 u0 w hb hw hI
  intro k
  induction k with
  | zero =>
    intro s u w hc hSw hFs
    have e : s = s1 := by simpa [chkRg] using hc
    subst e
    exact hdone u w hSw hFs
  | succ k ih =>
    intro s u w hc hSw hFs
    unfold chkRg at hc
    simp only [Bool.and_eq_true, Bool.not_eq_true', List.all_eq_true, decide_eq_true_eq] at hc
    obtain ⟨hne, hall⟩ := hc
    intro inv
    refine ⟨fun e => by rw [e] at hne; simp at hne, fun i hi => ?_⟩
    obtain ⟨hin, hid, hck⟩ := hall i hi
    have hid' : i ∈ idx := by simpa using hid
    obtain ⟨hun, oi, hoi, hpre⟩ := mem_ready.1 hi
    refine ⟨hin, wpOp_mono (fun a' w' h' => ?_) (wpOp_of_list hoi (hstep i hid' oi hoi s u w hSw hFs (getD_both hun) (fun j hp => ?_)))⟩
    · obtain ⟨v, rfl, hSw', hI'⟩ := h'
      exact ⟨hSw', ih _ _ _ hck hSw' hI' (inv.set hi hin)⟩
    · unfold predB at hp
      rw [hoi] at hp
      simp only [List.any_eq_true, Bool.and_eq_true, beq_iff_eq] at hp
      obtain ⟨e, he, h1, h2⟩ := hp
      rw [← h2]
      exact hpre e (by simpa using he) h1
end
theorem sd_up {s : Array Bool} {i j : Nat} (h : s.getD j false = true) : (s.setIfInBounds i true).getD j false = true := by
  by_cases e : i = j
  · subst e
    have hl : i < s.size := by
      rcases Nat.lt_or_ge i s.size with h' | h'
      · exact h'
      · simp [Array.getD, Nat.not_lt.2 h'] at h
    simp [Array.getD, hl]
  · rw [getD_set_ne false e]; exact h
/-- Two copies, one of which may have been cut. -/
structure FtI (L N : Int) (P : List F3) (F : Int) (n k k1 : Nat) (a1 a3 : Option Addr) (c1 c3 b4 b5 B : Nat) (w1 : World) (s : Array Bool) (u : Nat → Value) (w : World) : Prop where
  x5 : Bx w b5 #[.int .i64 L, .int .i64 N, .slice a3 n c3, .int .i64 F] 24
  x4 : (u 10 = .bool true ∧ Bx w b4 #[.int .i64 L, .int .i64 N, .slice a1 k c1, .int .i64 F] 24 ∧ s.getD 1 false = true) ∨ (u 10 ≠ .bool true ∧ Bx w b4 #[.int .i64 L, .int .i64 N, .slice a1 n c1, .int .i64 F] 24)
  f1 : Fz w a1 P
  f3 : Fz w a3 P
  bl : Below B w1 w
  g10 : s.getD 10 false = true → u 10 = .bool true
  u1 : s.getD 1 false = true → u 1 = .slice a1 n c1
  u3 : s.getD 3 false = true → u 3 = .slice a1 k c1
  u5 : s.getD 5 false = true → u 5 = .slice a3 n c3
  u8 : s.getD 8 false = true → u 8 = .slice a3 k1 c3
  u9 : s.getD 9 false = true → u 9 = .pointer (some ⟨b4, 2, none⟩)
theorem upd_u {s : Array Bool} {u : Nat → Value} {i j : Nat} {v x : Value} (h : s.getD j false = true → u j = x) (hv : i = j → v = x) : (s.setIfInBounds i true).getD j false = true → updU u i v j = x := fun k => by
  unfold updU
  by_cases e : j = i
  · rw [if_pos e]; exact hv e.symm
  · rw [if_neg e]; exact h (sd_of (Ne.symm e) k)
theorem FtI.rd {L N F : Int} {P : List F3} {n k k1 c1 c3 b4 b5 B : Nat} {a1 a3 : Option Addr} {w1 w : World} {s : Array Bool} {u : Nat → Value} (h : FtI L N P F n k k1 a1 a3 c1 c3 b4 b5 B w1 s u w) {i : Nat} {v : Value} (hne : i ≠ 10)
    (h1 : i = 1 → v = .slice a1 n c1) (h3 : i = 3 → v = .slice a1 k c1) (h5 : i = 5 → v = .slice a3 n c3) (h8 : i = 8 → v = .slice a3 k1 c3) (h9 : i = 9 → v = .pointer (some ⟨b4, 2, none⟩)) : FtI L N P F n k k1 a1 a3 c1 c3 b4 b5 B w1 (s.setIfInBounds i true) (updU u i v) w := by
  have e10 : updU u i v 10 = u 10 := by unfold updU; rw [if_neg (Ne.symm hne)]
  refine ⟨h.x5, ?_, h.f1, h.f3, h.bl, fun k => by rw [e10]; exact h.g10 (sd_of hne k), upd_u h.u1 h1, upd_u h.u3 h3, upd_u h.u5 h5, upd_u h.u8 h8, upd_u h.u9 h9⟩
  rw [e10]
  rcases h.x4 with ⟨e, x, g⟩ | ⟨e, x⟩
  · exact .inl ⟨e, x, sd_up g⟩
  · exact .inr ⟨e, x⟩
theorem FtI.st {L N F : Int} {P : List F3} {n k k1 c1 c3 b4 b5 B : Nat} {a1 a3 : Option Addr} {w1 w : World} {s : Array Bool} {u : Nat → Value} (h : FtI L N P F n k k1 a1 a3 c1 c3 b4 b5 B w1 s u w) (hne : b5 ≠ b4) (d1 : ∀ ad, a1 = some ad → ad.block ≠ b4) (d3 : ∀ ad, a3 = some ad → ad.block ≠ b4) (hB : B ≤ b4) (hs : s.getD 1 false = true) :
    FtI L N P F n k k1 a1 a3 c1 c3 b4 b5 B w1 (s.setIfInBounds 10 true) (updU u 10 (.bool true)) (w.setCell ⟨b4, 2, none⟩ (.slice a1 k c1)) := by
  refine ⟨h.x5.other (a := ⟨b4, 2, none⟩) hne _, .inl ⟨rfl, ?_, sd_up hs⟩, h.f1.set d1 _, h.f3.set d3 _, h.bl.setCell hB _, fun _ => rfl, fun k => h.u1 (sd_of (by omega) k), fun k => h.u3 (sd_of (by omega) k), fun k => h.u5 (sd_of (by omega) k), fun k => h.u8 (sd_of (by omega) k), fun k => h.u9 (sd_of (by omega) k)⟩
  rcases h.x4 with ⟨_, x, _⟩ | ⟨_, x⟩
  · simpa using x.set 2 (.slice a1 k c1)
  · simpa using x.set 2 (.slice a1 k c1)

set_option maxRecDepth 100000 in
set_option maxHeartbeats 6000000 in
theorem wiresFirst_any (L N : Int) (aP : Option Addr) (cP : Nat) (P : List F3) (F : Int) (w : World) (hS : WiIn w aP cP P) : Calls Try.prog 12 #[.agg #[.int .i64 L, .int .i64 N, .slice aP P.length cP, .int .i64 F]] w fun e w' => e = .returned (.bool true) ∧ Below w.heap.size w w' := by
  obtain ⟨W, hW, hb, hs, x0⟩ := boxes1 w #[.int .i64 L, .int .i64 N, .slice aP P.length cP, .int .i64 F] 24
  have hP := hS.pz.below hb (Nat.le_refl _)
  have hcap : P.length ≤ cP := hS.cap
  have hwk := works_any
  have hrd := fun V (h : Pz V aP P) => ready_any L N aP cP P F V h
  have hkn := fun x V => isKnown_any x V
  have hok := fun h => rdB_ok (L := L) (N := N) (F := F) (P := P) h
  have hlaw := fun h => first_law (L := L) (N := N) (F := F) (P := P) h
  generalize rdB L N P F = r at *
  clear hS
  have c0 := x0.cell 0 rfl; have c1 := x0.cell 1 rfl; have c2 := x0.cell 2 rfl; have c3 := x0.cell 3 rfl
  cases r
  · skip
    clear hok hlaw hkn
    go_enter Try.func12, Try.ntmps12
    go_wp2_with fail
    refine (hrd _ hP).mono ?_
    rintro e Vc1 ⟨rfl, hb1⟩
    clear c0 c1 c2 c3
    replace x0 := x0.below hb1
    replace hP := hP.below hb1 (Nat.le_refl _)
    replace hb := hb.trans (hb1.mono hb.size)
    clear hb1 hW
    have c0 := x0.cell 0 rfl; have c1 := x0.cell 1 rfl; have c2 := x0.cell 2 rfl; have c3 := x0.cell 3 rfl
    go_wp2_with fail
    refine (hwk _).mono ?_
    rintro e Vw ⟨rfl, hbw9⟩
    clear c0 c1 c2 c3
    replace hb := hb.trans (hbw9.mono hb.size)
    go_wp2
    go_ret
    exact ⟨rfl, hb⟩
  · skip
    have hv := (hok rfl).1
    have hD := hlaw rfl
    clear hok hlaw c0 c1 c2 c3
    obtain ⟨hL, hN, hP8, _, _⟩ := vB_siz hv
    have hcp := fun V (h : Fz V aP P) => Copy_any L N aP cP P F V h
    unfold CpP at hcp
    have hfi := fun V (h : Pz V aP P) => First_any L N aP cP P F V h hcap
    have hmn := fun V (h : Pz V aP P) => Many_any L N aP cP P F V h
    have hmk := fun (k : Nat) a c V (h : Fz V a P) => Many_any L N a c (P.take k) F V (h.take k).pz
    obtain ⟨n, hn⟩ : ∃ n, n = P.length := ⟨_, rfl⟩
    have HM := hid hn
    rw [← hn] at hrd hcp hfi hmn hD x0 hW hP8
    rw [← hn]
    clear hn hv hcap
    generalize fiE L N P F = E at *
    generalize fiR L N P F = k at *
    generalize akE L N P F true = M at *
    generalize (akT L N P F true).length = m at *
    have HD := hid hD
    clear hD
    rcases HD.out with ⟨rfl, rfl⟩ | ⟨rfl, rfl, hk, hm1, hm2⟩
    · skip
      clear HD hcp hmk
      have c0 := x0.cell 0 rfl; have c1 := x0.cell 1 rfl; have c2 := x0.cell 2 rfl; have c3 := x0.cell 3 rfl
      have hk0 := hkn 0
      replace hkn := hkn 3
      rw [show knB 3 = true from rfl] at hkn
      rw [show knB 0 = true from rfl] at hk0
      go_enter Try.func12, Try.ntmps12
      go_wp2_with fail
      refine (hrd _ hP).mono ?_
      rintro e Vc3 ⟨rfl, hb1⟩
      clear c0 c1 c2 c3
      replace x0 := x0.below hb1
      replace hP := hP.below hb1 (Nat.le_refl _)
      replace hb := hb.trans (hb1.mono hb.size)
      clear hb1 hW hrd
      have c0 := x0.cell 0 rfl; have c1 := x0.cell 1 rfl; have c2 := x0.cell 2 rfl; have c3 := x0.cell 3 rfl
      go_wp2_with fail
      refine (hfi _ hP).mono ?_
      rintro e Vc4 ⟨rfl, hb1⟩
      clear c0 c1 c2 c3
      replace x0 := x0.below hb1
      replace hP := hP.below hb1 (Nat.le_refl _)
      replace hb := hb.trans (hb1.mono hb.size)
      clear hb1 hfi
      have c0 := x0.cell 0 rfl; have c1 := x0.cell 1 rfl; have c2 := x0.cell 2 rfl; have c3 := x0.cell 3 rfl
      go_wp2_with fail
      refine (hmn _ hP).mono ?_
      rintro e Vc5 ⟨rfl, hb1⟩
      clear c0 c1 c2 c3
      replace x0 := x0.below hb1
      replace hP := hP.below hb1 (Nat.le_refl _)
      replace hb := hb.trans (hb1.mono hb.size)
      clear hb1 hmn
      have c0 := x0.cell 0 rfl; have c1 := x0.cell 1 rfl; have c2 := x0.cell 2 rfl; have c3 := x0.cell 3 rfl
      go_wp2_with fail
      refine (hkn _).mono ?_
      rintro e Vc6 ⟨rfl, rfl⟩
      go_wp2_with fail
      refine (hk0 _).mono ?_
      rintro e Vc7 ⟨rfl, rfl⟩
      go_wp2_with fail
      refine (hwk _).mono ?_
      rintro e Vw ⟨rfl, hbw9⟩
      clear c0 c1 c2 c3
      replace hb := hb.trans (hbw9.mono hb.size)
      go_wp2
      go_ret
      exact ⟨rfl, hb⟩
    · skip
      clear HD
      have e1 := fun a c V h => hmk k a c V h
      have e2 := fun a c V h => hmk (k + 1) a c V h
      clear hmk
      have hP9 := HM.out
      rw [hm1, List.length_take, ← hP9, Nat.min_eq_left (by omega)] at e1
      rw [hm2, List.length_take, ← hP9, Nat.min_eq_left (by omega)] at e2
      clear hm1 hm2 hP9
      generalize (akT L N (P.take k) F true).length = p1 at *
      generalize (akT L N (P.take (k + 1)) F true).length = p2 at *
      have hk0 := hkn 0
      replace hkn := hkn 3
      rw [show knB 3 = true from rfl] at hkn
      rw [show knB 0 = true from rfl] at hk0
      have hkI : (k : Int) < (n : Int) := by omega
      have hkz : (0 : Int) ≤ (k : Int) := by omega
      have hkz2 : ¬ (k : Int) < 0 := by omega
      have hkz3 : ¬ (n : Int) ≤ (k : Int) := by omega
      have c0 := x0.cell 0 rfl; have c1 := x0.cell 1 rfl; have c2 := x0.cell 2 rfl; have c3 := x0.cell 3 rfl
      go_enter Try.func12, Try.ntmps12
      go_wp2_with fail
      refine (hrd _ hP).mono ?_
      rintro e Vc9 ⟨rfl, hb1⟩
      clear c0 c1 c2 c3
      replace x0 := x0.below hb1
      replace hP := hP.below hb1 (Nat.le_refl _)
      replace hb := hb.trans (hb1.mono hb.size)
      clear hb1 hW hrd
      have c0 := x0.cell 0 rfl; have c1 := x0.cell 1 rfl; have c2 := x0.cell 2 rfl; have c3 := x0.cell 3 rfl
      go_wp2_with fail
      refine (hfi _ hP).mono ?_
      rintro e Vc10 ⟨rfl, hb1⟩
      clear c0 c1 c2 c3
      replace x0 := x0.below hb1
      replace hP := hP.below hb1 (Nat.le_refl _)
      replace hb := hb.trans (hb1.mono hb.size)
      clear hb1 hfi
      have c0 := x0.cell 0 rfl; have c1 := x0.cell 1 rfl; have c2 := x0.cell 2 rfl; have c3 := x0.cell 3 rfl
      go_wp2_with fail
      refine (hmn _ hP).mono ?_
      rintro e Vc11 ⟨rfl, hb1⟩
      clear c0 c1 c2 c3
      replace x0 := x0.below hb1
      replace hP := hP.below hb1 (Nat.le_refl _)
      replace hb := hb.trans (hb1.mono hb.size)
      clear hb1 hmn
      have c0 := x0.cell 0 rfl; have c1 := x0.cell 1 rfl; have c2 := x0.cell 2 rfl; have c3 := x0.cell 3 rfl
      go_wp2_with fail
      refine (hk0 _).mono ?_
      rintro e Vc12 ⟨rfl, rfl⟩
      go_wp2_with fail
      refine (hkn _).mono ?_
      rintro e Vc13 ⟨rfl, rfl⟩
      clear hk0 hkn
      go_upto_region 11 with fail
      clear c0 c1 c2 c3
      have hX64 := (hP.2 (by have := HM.out; omega)).2.1
      have hP0 := hP.2 (by have := HM.out; omega)
      have hlt0 := x0.lt
      have hPb : ∀ ad, aP = some ad → ad.block < Vc11.heap.size := by
        obtain ⟨bq, oq, eq, hq, _⟩ := hP0.2.2 0 (by have := HM.out; omega)
        intro ad e
        rw [eq] at e; cases e; exact hq
      obtain ⟨k1, hk1⟩ : ∃ k1, k1 = k + 1 := ⟨_, rfl⟩
      rw [← hk1] at e2
      have hbd := (Below.refl Vc11.heap.size Vc11).drew
      have S0 : FsS L N aP cP P F n w.heap.size Vc11 Vc11.drew := ⟨x0.below hbd, hP0.below hbd (Nat.le_refl _), hbd⟩
      clear hbd x0 hP
      refine wp_region_head 7 (FsS L N aP cP P F n w.heap.size Vc11) (by kernel_rfl) rfl ?_
      generalize Vc11.drew = Y0 at *
      refine HeadAt.take (i := 0) (.agg #[.int .i64 L, .int .i64 N, .slice aP n cP, .int .i64 F]) rfl (by kernel_rfl) (.inl ⟨rfl, fun w' z => ?_⟩) S0 ?_
      · (have z0 := z.x0.cell 0 rfl; have z1 := z.x0.cell 1 rfl; have z2 := z.x0.cell 2 rfl; have z3 := z.x0.cell 3 rfl; simp [go_sem, z0, z1, z2, z3])
      (try simp only [Act.put, List.getElem_toArray, List.getElem_cons_succ, List.getElem_cons_zero, List.setIfInBounds_toArray, List.set_cons_succ, List.set_cons_zero])
      refine HeadAt.take (i := 2) (.agg #[.int .i64 L, .int .i64 N, .slice aP n cP, .int .i64 F]) rfl (by kernel_rfl) (.inl ⟨rfl, fun w' z => ?_⟩) S0 ?_
      · (have z0 := z.x0.cell 0 rfl; have z1 := z.x0.cell 1 rfl; have z2 := z.x0.cell 2 rfl; have z3 := z.x0.cell 3 rfl; simp [go_sem, z0, z1, z2, z3])
      (try simp only [Act.put, List.getElem_toArray, List.getElem_cons_succ, List.getElem_cons_zero, List.setIfInBounds_toArray, List.set_cons_succ, List.set_cons_zero])
      refine HeadAt.rg3 (f0 := 1) [1, 3, 4, 5] 4 (fun u => { tmps := #[.agg #[.int .i64 L, .int .i64 N, .slice aP n cP, .int .i64 F], .pointer (some ⟨w.heap.size, 0, none⟩), .bool false, .int .i64 (k : Int), .int .i64 0, .int .i64 (m : Int), .int .i64 3, u 4, u 5, undef, undef, undef, undef, .agg #[.int .i64 L, .int .i64 N, .slice aP n cP, .int .i64 F], .bool true, .bool false, undef, .tuple #[.int .i64 (k : Int), .int .i64 0], .agg #[.int .i64 L, .int .i64 N, .slice aP n cP, .int .i64 F], .tuple #[.int .i64 (k : Int), .int .i64 0], .int .i64 (k : Int), .int .i64 0, .tuple #[.int .i64 (m : Int), .int .i64 3], .agg #[.int .i64 L, .int .i64 N, .slice aP n cP, .int .i64 F], .tuple #[.int .i64 (m : Int), .int .i64 3], .int .i64 (m : Int), .int .i64 3, .int .i64 0, .bool true, .bool false, .bool false, .int .i64 3, .bool true, .bool false, .bool false, .bool false, .int .i64 0, .bool true, .int .i64 3, .bool true, .bool false, .bool false, .int .i64 0, .bool false, undef, .int .i64 (k : Int), .bool (decide ((k : Int) < 0)), .bool (decide ((k : Int) < 0)), .int .i64 (k : Int), .pointer (some ⟨w.heap.size, 2, none⟩), .slice aP n cP, .int .i64 (n : Int), .bool (decide (n ≤ k)), .bool (decide ((k : Int) < 0) || decide (n ≤ k)), .agg #[.int .i64 L, .int .i64 N, .slice aP n cP, .int .i64 F], u 1, .agg #[.int .i64 L, .int .i64 N, .slice aP n cP, .int .i64 F], u 3, undef, undef, undef, undef, undef, undef, undef, undef, undef, undef, undef, undef, undef, undef, undef, undef, undef, undef, undef, undef, undef, undef, undef, undef, undef, undef, undef, undef, undef, undef], defers := [] }) (FsI L N P F n Vc11.heap.size) (fun _ => undef) (by kernel_rfl) ?step ?done S0 ⟨fun h => (by cases h), fun h => (by cases h), fun h => (by cases h), fun h => (by cases h), fun h => (by cases h)⟩
      case step =>
        clear e1 e2 S0
        intro i hi o ho s u V hS hI
        simp only [List.mem_cons, List.not_mem_nil, or_false] at hi
        generalize hK : Upto _ _ = K0
        rcases hi with rfl | rfl | rfl | rfl
        · cases ho
          go_wp2_with fail
          refine (hcp _ hS.hp).mono ?_
          rintro e V1 ⟨hb1, a, c, rfl, hown⟩
          go_wp2_with fail
          subst hK
          exact ⟨_, (by simp [updU]; omega), hS.below hb1, hI.call1 hb1 (CpV.of_own hown HM.out hX64 (by have := HM.out; omega))⟩
        · cases ho
          go_wp2_with fail
          refine (hcp _ hS.hp).mono ?_
          rintro e V1 ⟨hb1, a, c, rfl, hown⟩
          go_wp2_with fail
          subst hK
          exact ⟨_, (by simp [updU]; omega), hS.below hb1, hI.call3 hb1 (CpV.of_own hown HM.out hX64 (by have := HM.out; omega))⟩
        · cases ho
          go_wp2_with fail
          subst hK
          exact ⟨_, (by simp [updU]; omega), hS.below (below_one _), hI.box4 hS.bl.size⟩
        · cases ho
          go_wp2_with fail
          subst hK
          exact ⟨_, (by simp [updU]; omega), hS.below (below_one _), hI.box5 hS.bl.size⟩
      case done =>
        clear S0 hcp
        intro u V hS hI
        obtain ⟨a1, c1, g1, hc1, hf1, hg1⟩ := hI.c1 rfl
        obtain ⟨a3, c3, g3, hc3, hf3, hg3⟩ := hI.c3 rfl
        obtain ⟨b4, g4, hB4, x4⟩ := hI.b4 rfl
        obtain ⟨b5, g5, hB5, x5⟩ := hI.b5 rfl
        have hne : b4 ≠ b5 := fun e => hI.ne rfl rfl (by rw [g4, g5, e])
        have hne2 : b5 ≠ b4 := hne.symm
        have d14 := cp_ne hg1 x4
        have d15 := cp_ne hg1 x5
        have d34 := cp_ne hg3 x4
        have d35 := cp_ne hg3 x5
        simp only [g1, g3, g4, g5]
        clear g1 g3 g4 g5 hI hg1 hg3
        have hg4 := gput4 V b4 (.int .i64 L) (.int .i64 N) (.slice a1 n c1) (.int .i64 F)
        have y4 := x4.set4 (.int .i64 L) (.int .i64 N) (.slice a1 n c1) (.int .i64 F)
        have y5 := bx_gro x5 hg4 hne2
        have ybl := below_put4 hS.bl hB4 (.int .i64 L) (.int .i64 N) (.slice a1 n c1) (.int .i64 F)
        have yx := bx_gro hS.x0 hg4 (by omega)
        have yp := hS.hp.gro hg4 (fun ad e h => by have := hPb ad e; have := Option.some.inj h; omega)
        have yf1 := hf1.gro hg4 (fun ad e h => d14 ad e (Option.some.inj h).symm)
        have yf3 := hf3.gro hg4 (fun ad e h => d34 ad e (Option.some.inj h).symm)
        have HY := hid (And.intro y4 (And.intro y5 (And.intro ybl (And.intro yx (And.intro yp (And.intro yf1 yf3))))))
        have c0 := x4.cell 0 rfl; have c1 := x4.cell 1 rfl; have c2 := x4.cell 2 rfl; have c3 := x4.cell 3 rfl
        have f0 := x4.free 0; have f1 := x4.free 1; have f2 := x4.free 2; have f3 := x4.free 3
        clear y4 y5 ybl yx yp yf1 yf3 hg4 hS x5 hf1 hf3 x4
        (try simp only [Act.put, List.getElem_toArray, List.getElem_cons_succ, List.getElem_cons_zero, List.setIfInBounds_toArray, List.set_cons_succ, List.set_cons_zero])
        refine HeadAt.one (i := 6) rfl (by kernel_rfl) ?_
        generalize hK : Upto _ _ = K0
        (try simp only [Act.put, List.getElem_toArray, List.getElem_cons_succ, List.getElem_cons_zero, List.setIfInBounds_toArray, List.set_cons_succ, List.set_cons_zero])
        go_wp2_with fail
        obtain ⟨x4, x5, hbl, yx, yp, hf1, hf3⟩ := HY.out
        clear HY c0 c1 c2 c3 f0 f1 f2 f3
        generalize World.setCell _ _ _ = Y4 at *
        subst hK
        refine ⟨⟨yx, yp, hbl⟩, ?_⟩
        clear yx yp
        have hg5 := gput4 Y4 b5 (.int .i64 L) (.int .i64 N) (.slice a3 n c3) (.int .i64 F)
        have y5 := x5.set4 (.int .i64 L) (.int .i64 N) (.slice a3 n c3) (.int .i64 F)
        have y4 := bx_gro x4 hg5 hne
        have ybl := below_put4 hbl hB5 (.int .i64 L) (.int .i64 N) (.slice a3 n c3) (.int .i64 F)
        have yf1 := hf1.gro hg5 (fun ad e h => d15 ad e (Option.some.inj h).symm)
        have yf3 := hf3.gro hg5 (fun ad e h => d35 ad e (Option.some.inj h).symm)
        have HY := hid (And.intro y4 (And.intro y5 (And.intro ybl (And.intro yf1 yf3))))
        have c0 := x5.cell 0 rfl; have c1 := x5.cell 1 rfl; have c2 := x5.cell 2 rfl; have c3 := x5.cell 3 rfl
        have f0 := x5.free 0; have f1 := x5.free 1; have f2 := x5.free 2; have f3 := x5.free 3
        clear y4 y5 ybl yf1 yf3 hg5 x5 hf1 hf3 x4 hbl
        (try simp only [Act.put, List.getElem_toArray, List.getElem_cons_succ, List.getElem_cons_zero, List.setIfInBounds_toArray, List.set_cons_succ, List.set_cons_zero])
        refine HeadAt.done (by kernel_rfl) ?_
        (try simp only [Act.put, List.drop_succ_cons, List.drop_zero, List.getElem_toArray, List.getElem_cons_succ, List.getElem_cons_zero])
        go_wp2_with fail
        refine NoPanic.normal ?_
        obtain ⟨x4, x5, hbl, hf1, hf3⟩ := HY.out
        clear HY c0 c1 c2 c3 f0 f1 f2 f3
        generalize World.setCell _ _ _ = Y5 at *
        have hsl1 := slice_h22 a1 n c1 (k : Int) ⟨by omega, by omega⟩
        have hsl3 := slice_h22 a3 n c3 (k1 : Int) ⟨by omega, by omega⟩
        rw [Int.toNat_natCast] at hsl1 hsl3
        have hw1 : IntKind.i64.wrap ((k : Int) + 1) = (k1 : Int) := by rw [IntWalk.i64_in _ (by omega)]; omega
        go_upto_region 12 with fail
        have hkc1 : (k : Int) ≤ (c1 : Int) := by omega
        have hkc3 : (k1 : Int) ≤ (c3 : Int) := by omega
        have hk1z : (0 : Int) ≤ (k1 : Int) := by omega
        clear hk1
        have hbd := (Below.refl Y5.heap.size Y5).drew
        have I0 : FtI L N P F n k k1 a1 a3 c1 c3 b4 b5 Vc11.heap.size Vc11 ((((((Array.replicate 13 false).setIfInBounds 0 true).setIfInBounds 2 true).setIfInBounds 4 true).setIfInBounds 6 true).setIfInBounds 7 true) (fun _ => undef) Y5.drew := ⟨x5.below hbd, .inr ⟨fun h => by simp [undef] at h, x4.below hbd⟩, hf1.below hbd (Nat.le_refl _), hf3.below hbd (Nat.le_refl _), hbl.trans (hbd.mono hbl.size), fun h => (by cases h), fun h => (by cases h), fun h => (by cases h), fun h => (by cases h), fun h => (by cases h), fun h => (by cases h)⟩
        clear hbd x4 x5 hf1 hf3 hbl
        have S0 : True := trivial
        refine wp_region_head 11 (fun _ => True) (by kernel_rfl) rfl ?_
        generalize Y5.drew = Y7 at *
        refine HeadAt.take (i := 0) (.pointer (some ⟨b4, 2, none⟩)) rfl (by kernel_rfl) (.inl ⟨rfl, fun _ _ => by simp [go_sem]⟩) S0 ?_
        (try simp only [Act.put, List.getElem_toArray, List.getElem_cons_succ, List.getElem_cons_zero, List.setIfInBounds_toArray, List.set_cons_succ, List.set_cons_zero])
        refine HeadAt.take (i := 2) (.int .i64 (k : Int)) rfl (by kernel_rfl) (.inl ⟨rfl, fun _ _ => by simp [go_sem]⟩) S0 ?_
        (try simp only [Act.put, List.getElem_toArray, List.getElem_cons_succ, List.getElem_cons_zero, List.setIfInBounds_toArray, List.set_cons_succ, List.set_cons_zero])
        refine HeadAt.take (i := 4) (.pointer (some ⟨b5, 2, none⟩)) rfl (by kernel_rfl) (.inl ⟨rfl, fun _ _ => by simp [go_sem]⟩) S0 ?_
        (try simp only [Act.put, List.getElem_toArray, List.getElem_cons_succ, List.getElem_cons_zero, List.setIfInBounds_toArray, List.set_cons_succ, List.set_cons_zero])
        refine HeadAt.take (i := 6) (.int .i64 (k : Int)) rfl (by kernel_rfl) (.inl ⟨rfl, fun _ _ => by simp [go_sem]⟩) S0 ?_
        (try simp only [Act.put, List.getElem_toArray, List.getElem_cons_succ, List.getElem_cons_zero, List.setIfInBounds_toArray, List.set_cons_succ, List.set_cons_zero])
        refine HeadAt.take (i := 7) (.int .i64 (k1 : Int)) rfl (by kernel_rfl) (.inl ⟨rfl, fun w' z => ?_⟩) S0 ?_
        · (simp [go_sem, hw1])
        (try simp only [Act.put, List.getElem_toArray, List.getElem_cons_succ, List.getElem_cons_zero, List.setIfInBounds_toArray, List.set_cons_succ, List.set_cons_zero])
        refine HeadAt.rg4 (f0 := 0) [1, 3, 5, 8, 9, 10] 6 (fun u => { tmps := #[.agg #[.int .i64 L, .int .i64 N, .slice aP n cP, .int .i64 F], .pointer (some ⟨w.heap.size, 0, none⟩), .bool false, .int .i64 (k : Int), .int .i64 0, .int .i64 (m : Int), .int .i64 3, .pointer (some ⟨b4, 0, none⟩), .pointer (some ⟨b5, 0, none⟩), undef, undef, undef, undef, .agg #[.int .i64 L, .int .i64 N, .slice aP n cP, .int .i64 F], .bool true, .bool false, undef, .tuple #[.int .i64 (k : Int), .int .i64 0], .agg #[.int .i64 L, .int .i64 N, .slice aP n cP, .int .i64 F], .tuple #[.int .i64 (k : Int), .int .i64 0], .int .i64 (k : Int), .int .i64 0, .tuple #[.int .i64 (m : Int), .int .i64 3], .agg #[.int .i64 L, .int .i64 N, .slice aP n cP, .int .i64 F], .tuple #[.int .i64 (m : Int), .int .i64 3], .int .i64 (m : Int), .int .i64 3, .int .i64 0, .bool true, .bool false, .bool false, .int .i64 3, .bool true, .bool false, .bool false, .bool false, .int .i64 0, .bool true, .int .i64 3, .bool true, .bool false, .bool false, .int .i64 0, .bool false, undef, .int .i64 (k : Int), .bool (decide ((k : Int) < 0)), .bool (decide ((k : Int) < 0)), .int .i64 (k : Int), .pointer (some ⟨w.heap.size, 2, none⟩), .slice aP n cP, .int .i64 (n : Int), .bool (decide (n ≤ k)), .bool (decide ((k : Int) < 0) || decide (n ≤ k)), .agg #[.int .i64 L, .int .i64 N, .slice aP n cP, .int .i64 F], .agg #[.int .i64 L, .int .i64 N, .slice a1 n c1, .int .i64 F], .agg #[.int .i64 L, .int .i64 N, .slice aP n cP, .int .i64 F], .agg #[.int .i64 L, .int .i64 N, .slice a3 n c3, .int .i64 F], .pointer (some ⟨b4, 2, none⟩), u 1, .int .i64 (k : Int), u 3, .pointer (some ⟨b5, 2, none⟩), u 5, .int .i64 (k : Int), .int .i64 (k1 : Int), u 8, u 9, undef, undef, undef, undef, undef, undef, undef, undef, undef, undef, undef, undef, undef, undef, undef, undef, undef, undef, undef, undef], defers := [] }) (FtI L N P F n k k1 a1 a3 c1 c3 b4 b5 Vc11.heap.size Vc11) (fun _ => undef) (by kernel_rfl) ?stepb ?doneb trivial I0
        case stepb =>
          clear e1 e2 I0
          intro i hi o ho s u V hS hI hun hpre
          simp only [List.mem_cons, List.not_mem_nil, or_false] at hi
          generalize hK : Upto _ _ = K0
          rcases hi with rfl | rfl | rfl | rfl | rfl | rfl
          · cases ho
            have x4 : Bx V b4 #[.int .i64 L, .int .i64 N, .slice a1 n c1, .int .i64 F] 24 := by
              rcases hI.x4 with ⟨_, _, h⟩ | ⟨_, x⟩
              · rw [h] at hun; cases hun
              · exact x
            have c2 := x4.cell 2 rfl
            clear hpre
            go_wp2_with fail
            subst hK
            exact ⟨.slice a1 n c1, (by simp [updU]; omega), trivial, hI.rd (by omega) (fun _ => rfl) (fun e => by omega) (fun e => by omega) (fun e => by omega) (fun e => by omega)⟩
          · cases ho
            have q1 := hI.u1 (hpre 1 (by kernel_rfl))
            rw [q1]
            clear hpre
            go_wp2_with fail
            subst hK
            exact ⟨.slice a1 k c1, (by simp [updU, q1]; omega), trivial, hI.rd (by omega) (fun e => by omega) (fun _ => rfl) (fun e => by omega) (fun e => by omega) (fun e => by omega)⟩
          · cases ho
            have c2 := hI.x5.cell 2 rfl
            clear hpre
            go_wp2_with fail
            subst hK
            exact ⟨.slice a3 n c3, (by simp [updU]; omega), trivial, hI.rd (by omega) (fun e => by omega) (fun e => by omega) (fun _ => rfl) (fun e => by omega) (fun e => by omega)⟩
          · cases ho
            have q5 := hI.u5 (hpre 5 (by kernel_rfl))
            rw [q5]
            clear hpre
            go_wp2_with fail
            subst hK
            exact ⟨.slice a3 k1 c3, (by simp [updU, q5]; omega), trivial, hI.rd (by omega) (fun e => by omega) (fun e => by omega) (fun e => by omega) (fun _ => rfl) (fun e => by omega)⟩
          · cases ho
            clear hpre
            go_wp2_with fail
            subst hK
            exact ⟨.pointer (some ⟨b4, 2, none⟩), (by simp [updU]; omega), trivial, hI.rd (by omega) (fun e => by omega) (fun e => by omega) (fun e => by omega) (fun e => by omega) (fun _ => rfl)⟩
          · cases ho
            have q9 := hI.u9 (hpre 9 (by kernel_rfl))
            have q3 := hI.u3 (hpre 3 (by kernel_rfl))
            have h1 := hpre 1 (by kernel_rfl)
            have hY := hI.st hne2 d14 d34 hB4 h1
            rw [q9, q3]
            clear hpre
            rcases hI.x4 with ⟨_, x4, _⟩ | ⟨_, x4⟩
            · have c2 := x4.cell 2 rfl
              have f2 := x4.free 2
              go_wp2_with fail
              subst hK
              exact ⟨.bool true, (by simp [updU, q9, q3]; omega), trivial, hY⟩
            · have c2 := x4.cell 2 rfl
              have f2 := x4.free 2
              go_wp2_with fail
              subst hK
              exact ⟨.bool true, (by simp [updU, q9, q3]; omega), trivial, hY⟩
        case doneb =>
          clear I0
          intro u V hS hI
          have x4 : Bx V b4 #[.int .i64 L, .int .i64 N, .slice a1 k c1, .int .i64 F] 24 := by
            rcases hI.x4 with ⟨_, x, _⟩ | ⟨e, _⟩
            · exact x
            · exact absurd (hI.g10 rfl) e
          have q8 := hI.u8 rfl; have q9 := hI.u9 rfl; have q1 := hI.u1 rfl; have q3 := hI.u3 rfl; have q5 := hI.u5 rfl
          simp only [q1, q3, q5, q8, q9]
          have y4 := x4.other (a := ⟨b5, 2, none⟩) hne (.slice a3 k1 c3)
          have y5 : Bx (V.setCell ⟨b5, 2, none⟩ (.slice a3 k1 c3)) b5 #[.int .i64 L, .int .i64 N, .slice a3 k1 c3, .int .i64 F] 24 := by simpa using hI.x5.set 2 (.slice a3 k1 c3)
          have yf1 := hI.f1.set (p := ⟨b5, 2, none⟩) d15 (.slice a3 k1 c3)
          have yf3 := hI.f3.set (p := ⟨b5, 2, none⟩) d35 (.slice a3 k1 c3)
          have ybl := hI.bl.setCell (p := ⟨b5, 2, none⟩) hB5 (.slice a3 k1 c3)
          have HY := hid (And.intro y4 (And.intro y5 (And.intro ybl (And.intro yf1 yf3))))
          have c2 := hI.x5.cell 2 rfl; have f2 := hI.x5.free 2
          clear y4 y5 ybl yf1 yf3 x4 hI q1 q3 q5 q8 q9
          (try simp only [Act.put, List.getElem_toArray, List.getElem_cons_succ, List.getElem_cons_zero, List.setIfInBounds_toArray, List.set_cons_succ, List.set_cons_zero])
          refine HeadAt.done (by kernel_rfl) ?_
          (try simp only [Act.put, List.drop_succ_cons, List.drop_zero, List.getElem_toArray, List.getElem_cons_succ, List.getElem_cons_zero])
          go_wp2_with fail
          refine NoPanic.normal ?_
          obtain ⟨x4, x5, hbl, hf1, hf3⟩ := HY.out
          clear HY c2 f2 hsl1 hsl3 hw1
          generalize World.setCell _ _ _ = Y6 at *
          replace hb := hb.trans (hbl.mono hb.size)
          clear hbl
          have c0 := x4.cell 0 rfl; have c1 := x4.cell 1 rfl; have c2 := x4.cell 2 rfl; have c3 := x4.cell 3 rfl
          have d0 := x5.cell 0 rfl; have d1 := x5.cell 1 rfl; have d2 := x5.cell 2 rfl; have d3 := x5.cell 3 rfl
          go_wp2_with fail
          refine (e1 _ _ _ hf1).mono ?_
          rintro e Vc14 ⟨rfl, hb1⟩
          clear c0 c1 c2 c3
          clear d0 d1 d2 d3
          replace x4 := x4.below hb1
          replace x5 := x5.below hb1
          replace hf1 := hf1.below hb1 (Nat.le_refl _)
          replace hf3 := hf3.below hb1 (Nat.le_refl _)
          replace hb := hb.trans (hb1.mono hb.size)
          clear hb1 e1
          have c0 := x4.cell 0 rfl; have c1 := x4.cell 1 rfl; have c2 := x4.cell 2 rfl; have c3 := x4.cell 3 rfl
          have d0 := x5.cell 0 rfl; have d1 := x5.cell 1 rfl; have d2 := x5.cell 2 rfl; have d3 := x5.cell 3 rfl
          go_wp2_with fail
          refine (e2 _ _ _ hf3).mono ?_
          rintro e Vc15 ⟨rfl, hb1⟩
          clear c0 c1 c2 c3
          clear d0 d1 d2 d3
          replace x4 := x4.below hb1
          replace x5 := x5.below hb1
          replace hf1 := hf1.below hb1 (Nat.le_refl _)
          replace hf3 := hf3.below hb1 (Nat.le_refl _)
          replace hb := hb.trans (hb1.mono hb.size)
          clear hb1 e2
          have c0 := x4.cell 0 rfl; have c1 := x4.cell 1 rfl; have c2 := x4.cell 2 rfl; have c3 := x4.cell 3 rfl
          have d0 := x5.cell 0 rfl; have d1 := x5.cell 1 rfl; have d2 := x5.cell 2 rfl; have d3 := x5.cell 3 rfl
          go_wp2_with fail
          refine (hwk _).mono ?_
          rintro e Vw ⟨rfl, hbw9⟩
          clear c0 c1 c2 c3
          clear d0 d1 d2 d3
          replace hb := hb.trans (hbw9.mono hb.size)
          go_wp2
          go_ret
          exact ⟨rfl, hb⟩
end Go.Proofs.Ytmpihcencnkpbaa
