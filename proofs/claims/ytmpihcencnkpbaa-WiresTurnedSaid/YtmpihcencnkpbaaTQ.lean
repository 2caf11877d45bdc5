import Derived.Test.YtmpihcencnkpbaaTG
/-! The reference's clash, other, PlaysOf. -/
namespace Go.Proofs.Ytmpihcencnkpbaa
set_option linter.unusedSimpArgs false
set_option linter.unusedVariables false
open Go Go.RowKit

/-- Crosses of one kind, or of none that there is, with a button in both. -/
def rclB (f g : F3) : Bool := (decide (f.k = g.k) && decide (3 ≤ f.k)) && (((decide (f.a = g.a) || decide (f.a = g.b)) || decide (f.b = g.a)) || decide (f.b = g.b))
theorem rclB_eq {f g : F3} (h : f.k ≤ 4) : rclB f g = clB f g := by
  unfold rclB clB
  congr 2
  rw [Bool.eq_iff_iff]
  simp only [Bool.or_eq_true, decide_eq_true_eq]
  omega
set_option maxRecDepth 100000 in
set_option maxHeartbeats 1000000 in
theorem rclash_any (f h : F3) (w : World) : Calls Try.prog 87 #[.agg #[.int .i64 f.k, .int .i64 f.a, .int .i64 f.b], .agg #[.int .i64 h.k, .int .i64 h.a, .int .i64 h.b]] w fun e w' => e = .returned (.bool (rclB f h)) ∧ Below w.heap.size w w' := by
  obtain ⟨W, hW, hb, hs, x0, x1⟩ := boxes2 w #[.int .i64 f.k, .int .i64 f.a, .int .i64 f.b] 63 #[.int .i64 h.k, .int .i64 h.a, .int .i64 h.b] 63
  obtain ⟨k, a, b⟩ := f
  obtain ⟨k', a', b'⟩ := h
  have c0 := x0.cell 0 rfl; have c1 := x0.cell 1 rfl; have c2 := x0.cell 2 rfl
  have d0 := x1.cell 0 rfl; have d1 := x1.cell 1 rfl; have d2 := x1.cell 2 rfl
  clear x0 x1
  unfold rclB
  simp only at *
  cases h1 : (k == k')
  · have e1 := hid (show ¬ k = k' by simpa using h1)
    go_enter Try.func87, Try.ntmps87
    go_wp2
    go_ret
    exact ⟨ret_bool (by simp [e1.out]), hb⟩
  · have e1 := hid (show k = k' by simpa using h1)
    by_cases h2 : 3 ≤ k
    · have e2 := hid h2
      cases h4 : (a == a') <;> cases h5 : (a == b') <;> cases h6 : (b == a') <;> cases h7 : (b == b')
      all_goals
        go_enter Try.func87, Try.ntmps87
        go_wp2
        go_ret
        refine ⟨ret_bool ?_, hb⟩
        simp only [beq_iff_eq, beq_eq_false_iff_ne] at h4 h5 h6 h7
        simp [← e1.out, e2.out, h4, h5, h6, h7]
    · have e2 := hid h2
      go_enter Try.func87, Try.ntmps87
      go_wp2
      go_ret
      exact ⟨ret_bool (by have hq : ¬ 3 ≤ k := by have := e2.out; omega
                          simp [hq]), hb⟩
/-- The button that counts instead of one, by the first cross of a kind. -/
def othL (k m : Int) : List F3 → Int
  | [] => m
  | f :: r => if f.k = k then (if f.a = m then f.b else if f.b = m then f.a else othL k m r) else othL k m r
def othN (k m : Int) (f : F3) : Prop := f.k = k → f.a ≠ m ∧ f.b ≠ m
theorem othL_pre {k m : Int} : ∀ {pre rest : List F3}, (∀ f ∈ pre, othN k m f) → othL k m (pre ++ rest) = othL k m rest
  | [], _, _ => rfl
  | f :: pre, rest, h => by
    have h1 := h f List.mem_cons_self
    rw [List.cons_append, othL, othL_pre (fun g hg => h g (List.mem_cons_of_mem _ hg))]
    by_cases e : f.k = k
    · obtain ⟨a, b⟩ := h1 e
      rw [if_pos e, if_neg a, if_neg b]
    · rw [if_neg e]
theorem othL_nil {k m : Int} {s : List F3} (h : ∀ f ∈ s, othN k m f) : othL k m s = m := by
  have := othL_pre (rest := []) h
  rwa [List.append_nil] at this
set_option maxRecDepth 100000 in
set_option maxHeartbeats 3000000 in
theorem other_any (a : Option Addr) (c : Nat) (xs : List F3) (k m : Int) (w : World) (hA : Fz w a xs) : Calls Try.prog 78 #[.slice a xs.length c, .int .i64 k, .int .i64 m] w fun e w' => e = .returned (.int .i64 (othL k m xs)) ∧ Below w.heap.size w w' := by
  have hlen := hA.len
  have hR0 : Hid ((∀ f ∈ xs, othN k m f) → othL k m xs = m) := hid othL_nil
  have hR1 : Hid (∀ (j : Nat) (f : F3), (∀ g ∈ xs.take j, othN k m g) → xs.drop j = f :: xs.drop (j + 1) → othL k m xs = othL k m (f :: xs.drop (j + 1))) := hid fun j f h1 h2 => by
    have := othL_pre (rest := xs.drop j) h1
    rw [List.take_append_drop, h2] at this
    exact this
  generalize othL k m xs = r at *
  obtain ⟨n, hn⟩ : ∃ n, n = xs.length := ⟨_, rfl⟩
  rw [← hn] at hlen ⊢
  have HN := hid hn
  clear hn
  go_enter Try.func78, Try.ntmps78
  go_wp2
  go_loopg [6, 7, 8] n (fun g v6 v7 v8 wr => ∃ j : Nat, j + g = n ∧ v7 = .int .i64 (j : Int) ∧ Below w.heap.size w wr ∧ Hid (∀ f ∈ xs.take j, othN k m f))
  case atStart => exact ⟨0, by omega, rfl, Below.refl _ _, hid (by simp)⟩
  case round =>
    obtain ⟨j, hjg, rfl, hb, hnot⟩ := hrel
    cases gk with
    | zero =>
      obtain rfl : j = n := by omega
      have hjI : ¬ (j : Int) < (j : Int) := by omega
      have hall : ∀ f ∈ xs, othN k m f := by
        have := hnot.out
        rwa [HN.out, List.take_length] at this
      have HR := hid (hR0.out hall)
      clear hall hnot
      go_wp2
      go_ret
      exact ⟨ret_int (by rw [HR.out]), hb⟩
    | succ g =>
      have hjn : j < n := by omega
      obtain ⟨b1, o1, x, rfl, _, ⟨q0, q1, q2⟩, _, _, _, hdr, htk⟩ := (hA.below hb (Nat.le_refl _)).at (k := j) (by rw [← HN.out]; exact hjn)
      have hjI : (j : Int) < n := by omega
      have hj0 : (0 : Int) ≤ (j : Int) := by omega
      have hgo := hR1.out j x hnot.out hdr.out
      have hnx : othN k m x → ∀ f ∈ xs.take (j + 1), othN k m f := fun e f h => by
        rw [htk.out] at h
        rcases List.mem_append.1 h with h | h
        · exact hnot.out f h
        · rw [List.mem_singleton.1 h]; exact e
      have HG := hid hgo
      have HX := hid hnx
      have hba := below_one (w := wr) (.cells #[.int .i64 x.k, .int .i64 x.a, .int .i64 x.b] 63)
      have hbn := hb.trans (hba.mono hb.size)
      have x8 := Bx.new wr #[.int .i64 x.k, .int .i64 x.a, .int .i64 x.b] 63
      have e0 := x8.cell 0 rfl; have e1 := x8.cell 1 rfl; have e2 := x8.cell 2 rfl
      have HB := hid hbn
      clear hba hbn x8 hgo hnx hdr htk hnot hb
      by_cases hk : x.k = k
      · have hkB : (x.k == k) = true := by simpa using hk
        by_cases ha : x.a = m
        · have haB : (x.a == m) = true := by simpa using ha
          have HR := hid (show r = x.b by rw [HG.out, othL, if_pos hk, if_pos ha])
          clear hk ha HG HX
          go_wp2
          go_ret
          exact ⟨ret_int (by rw [HR.out]), HB.out⟩
        · have haB : (x.a == m) = false := by simpa using ha
          by_cases hc : x.b = m
          · have hcB : (x.b == m) = true := by simpa using hc
            have HR := hid (show r = x.a by rw [HG.out, othL, if_pos hk, if_neg ha, if_pos hc])
            clear hk ha hc HG HX
            go_wp2
            go_ret
            exact ⟨ret_int (by rw [HR.out]), HB.out⟩
          · have hcB : (x.b == m) = false := by simpa using hc
            have HY := hid (HX.out (fun _ => ⟨ha, hc⟩))
            clear hk ha hc HG HX
            go_wp2
            go_roundg g
            case measure => omega
            case rel => exact ⟨j + 1, by omega, by go_num, HB.out, HY⟩
      · have hkB : (x.k == k) = false := by simpa using hk
        have HY := hid (HX.out (fun e => absurd e hk))
        clear hk HG HX
        go_wp2
        go_roundg g
        case measure => omega
        case rel => exact ⟨j + 1, by omega, by go_num, HB.out, HY⟩

/-- The crosses of a kind, one behind the other. -/
def foldK (k : Int) : List F3 → Int → Int
  | [], x => x
  | f :: r, x => if f.k = k then foldK k r (crI f x) else foldK k r x
theorem plF_eq {N l n : Int} : ∀ (s : List F3) (x y : Int), plF N l n s x y = if s.any (fun f => deadP f l n) = true then -1 else foldK 3 s x * N + foldK 4 s y
  | [], x, y => rfl
  | f :: r, x, y => by
    rw [plF, List.any_cons]
    by_cases h : deadP f l n = true
    · rw [if_pos h, if_pos (by rw [h]; rfl)]
    · rw [if_neg h]
      have h' : deadP f l n = false := by simpa using h
      rw [h', Bool.false_or]
      rw [foldK, foldK]
      by_cases h3 : f.k = 3
      · rw [if_pos h3, if_pos h3, if_neg (show ¬ f.k = 4 by omega), plF_eq r]
      · rw [if_neg h3, if_neg h3]
        by_cases h4 : f.k = 4
        · rw [if_pos h4, if_pos h4, plF_eq r]
        · rw [if_neg h4, if_neg h4, plF_eq r]
theorem foldK_same {k : Int} : ∀ {s : List F3} {x : Int}, (∀ f ∈ s, othN k x f) → foldK k s x = x
  | [], _, _ => rfl
  | f :: r, x, h => by
    have h1 := h f List.mem_cons_self
    have h2 := foldK_same (s := r) (x := x) (fun g hg => h g (List.mem_cons_of_mem _ hg))
    rw [foldK]
    by_cases e : f.k = k
    · obtain ⟨a, b⟩ := h1 e
      rw [if_pos e]
      unfold crI
      rw [if_neg (fun q => a q.symm), if_neg (fun q => b q.symm), h2]
    · rw [if_neg e, h2]
theorem clB_off {f g : F3} {k : Int} (hk : k = 3 ∨ k = 4) (h : offB f g = true) (hf : f.k = k) : othN k f.a g ∧ othN k f.b g := by
  have hc : clB f g = false := by
    unfold offB at h
    cases hq : clB f g
    · rfl
    · rw [hq] at h; simp at h
  unfold clB at hc
  constructor
  · intro hg
    have e1 : f.k = g.k := by omega
    simp only [e1, decide_true, Bool.true_and, Bool.and_eq_false_iff, Bool.or_eq_false_iff, decide_eq_false_iff_not] at hc
    rcases hc with ⟨h1, h2⟩ | ⟨⟨⟨h1, h2⟩, h3⟩, h4⟩
    · omega
    · exact ⟨fun e => h1 e.symm, fun e => h2 e.symm⟩
  · intro hg
    have e1 : f.k = g.k := by omega
    simp only [e1, decide_true, Bool.true_and, Bool.and_eq_false_iff, Bool.or_eq_false_iff, decide_eq_false_iff_not] at hc
    rcases hc with ⟨h1, h2⟩ | ⟨⟨⟨h1, h2⟩, h3⟩, h4⟩
    · omega
    · exact ⟨fun e => h3 e.symm, fun e => h4 e.symm⟩
theorem foldK_oth {k : Int} (hk : k = 3 ∨ k = 4) : ∀ {s : List F3} {x : Int}, s.Pairwise (fun g f => offB g f = true) → foldK k s x = othL k x s
  | [], _, _ => rfl
  | f :: r, x, h => by
    obtain ⟨h1, h2⟩ := List.pairwise_cons.1 h
    rw [foldK, othL]
    by_cases e : f.k = k
    · rw [if_pos e, if_pos e]
      unfold crI
      by_cases ha : x = f.a
      · rw [if_pos ha, if_pos (show f.a = x from ha.symm)]
        exact foldK_same (fun g hg => (clB_off hk (h1 g hg) e).2)
      · rw [if_neg ha, if_neg (show ¬ f.a = x from fun q => ha q.symm)]
        by_cases hb : x = f.b
        · rw [if_pos hb, if_pos (show f.b = x from hb.symm)]
          exact foldK_same (fun g hg => (clB_off hk (h1 g hg) e).1)
        · rw [if_neg hb, if_neg (show ¬ f.b = x from fun q => hb q.symm)]
          exact foldK_oth hk h2
    · rw [if_neg e, if_neg e]
      exact foldK_oth hk h2
/-- What the reference says that a press plays. -/
def rplV (N : Int) (s : List F3) (l n : Int) : Int := if (hasF s ⟨1, l, 0⟩ || hasF s ⟨2, n, 0⟩) = true then -1 else othL 3 l s * N + othL 4 n s
theorem rplV_eq {L N l n : Int} {s : List F3} (h : setB L N s = true) : rplV N s l n = plV N s l n := by
  obtain ⟨h1, h2⟩ := setB_iff.1 h
  unfold rplV plV
  rw [plF_eq, foldK_oth (.inl rfl) h2, foldK_oth (.inr rfl) h2]
  have e : (hasF s ⟨1, l, 0⟩ || hasF s ⟨2, n, 0⟩) = s.any fun f => deadP f l n := by
    rw [Bool.eq_iff_iff]
    simp only [hasF, Bool.or_eq_true, decide_eq_true_eq, List.any_eq_true]
    constructor
    · rintro (hm | hm)
      · exact ⟨_, hm, by simp [deadP]⟩
      · exact ⟨_, hm, by simp [deadP]⟩
    · rintro ⟨f, hf, hd⟩
      have hff := h1 f hf
      unfold deadP at hd
      simp only [Bool.or_eq_true, Bool.and_eq_true, decide_eq_true_eq] at hd
      obtain ⟨k, a, b⟩ := f
      simp only at hd
      unfold faultB at hff
      simp only at hff
      rcases hd with ⟨rfl, rfl⟩ | ⟨rfl, rfl⟩
      · simp [deadB] at hff
        left; rw [hff.2] at hf; exact hf
      · simp [deadB] at hff
        right; rw [hff.2] at hf; exact hf
  rw [e]
end Go.Proofs.Ytmpihcencnkpbaa
