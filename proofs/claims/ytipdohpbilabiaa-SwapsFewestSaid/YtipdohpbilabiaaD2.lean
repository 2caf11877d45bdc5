import Derived.Test.YtipdohpbilabiaaD1
/-! Plans and visits; what a plan's titles and changes are. -/
namespace Go.Proofs.Ytipdohpbilabiaa
open Go.RowKit

/-- A plan: the titles of three boxes. -/
structure Pl where
  a : Nat
  b : Nat
  c : Nat
deriving DecidableEq
def Pl.get (p : Pl) : Nat → Nat
  | 0 => p.a
  | 1 => p.b
  | 2 => p.c
  | _ => 0
def Pl.set (p : Pl) (k t : Nat) : Pl :=
  match k with
  | 0 => { p with a := t }
  | 1 => { p with b := t }
  | _ => { p with c := t }
def Pl.ok (p : Pl) (m : Nat) : Prop := p.a < m ∧ p.b < m ∧ p.c < m
def pl0 : Pl := ⟨0, 0, 0⟩
theorem Pl.ok.le {p : Pl} {m n : Nat} (h : p.ok m) (hm : m ≤ n) : p.ok n := ⟨Nat.lt_of_lt_of_le h.1 hm, Nat.lt_of_lt_of_le h.2.1 hm, Nat.lt_of_lt_of_le h.2.2 hm⟩
theorem Pl.ok.get {p : Pl} {m : Nat} (h : p.ok m) (k : Nat) : p.get k < m := by
  obtain ⟨h1, h2, h3⟩ := h
  match k with
  | 0 => exact h1
  | 1 => exact h2
  | 2 => exact h3
  | n + 3 => show 0 < m; omega
theorem Pl.ok.set {p : Pl} {m : Nat} (h : p.ok m) (k : Nat) {t : Nat} (ht : t < m) : (p.set k t).ok m := by
  obtain ⟨h1, h2, h3⟩ := h
  match k with
  | 0 => exact ⟨ht, h2, h3⟩
  | 1 => exact ⟨h1, ht, h3⟩
  | n + 2 => exact ⟨h1, h2, ht⟩
theorem Pl.get_set {p : Pl} {k t : Nat} (hk : k < 3) : (p.set k t).get k = t := by
  match k, hk with
  | 0, _ => rfl
  | 1, _ => rfl
  | 2, _ => rfl

theorem pl_at (p : Pl) {k : Nat} (hk : k < 3) : (#[.int .u8 (p.a : Int), .int .u8 (p.b : Int), .int .u8 (p.c : Int)] : Array Value)[k]? = some (.int .u8 ((p.get k : Nat) : Int)) := by
  match k, hk with
  | 0, _ => rfl
  | 1, _ => rfl
  | 2, _ => rfl
theorem pl_index0 (a b c : Nat) (w : World) : (Instr.index 70 (.agg #[.int .u8 a, .int .u8 b, .int .u8 c]) (.int .i64 (0 : Nat))).run Try.prog w = .ok (.int .u8 (a : Nat)) w := by kernel_rfl
theorem pl_index1 (a b c : Nat) (w : World) : (Instr.index 70 (.agg #[.int .u8 a, .int .u8 b, .int .u8 c]) (.int .i64 (1 : Nat))).run Try.prog w = .ok (.int .u8 (b : Nat)) w := by kernel_rfl
theorem pl_index2 (a b c : Nat) (w : World) : (Instr.index 70 (.agg #[.int .u8 a, .int .u8 b, .int .u8 c]) (.int .i64 (2 : Nat))).run Try.prog w = .ok (.int .u8 (c : Nat)) w := by kernel_rfl
theorem pl_index (p : Pl) {k : Nat} (hk : k < 3) (w : World) : (Instr.index 70 (.agg #[.int .u8 (p.a : Int), .int .u8 (p.b : Int), .int .u8 (p.c : Int)]) (.int .i64 (k : Nat))).run Try.prog w = .ok (.int .u8 ((p.get k : Nat) : Int)) w := by
  match k, hk with
  | 0, _ => exact pl_index0 _ _ _ w
  | 1, _ => exact pl_index1 _ _ _ w
  | 2, _ => exact pl_index2 _ _ _ w

/-- A visit, as the program's methods see it. -/
structure Vz where
  nb : Nat
  st : List Int
  er : List (List Int)
  ch : Int
  now : Pl
  stay : Pl

/-- A slice that reads as lists. -/
def Lss (w : World) (a : Option Addr) (LL : List (List Int)) : Prop :=
  LL.length ≤ 9223372036854775807 ∧ ∀ (i : Nat) (ks : List Int), LL[i]? = some ks → ∃ (b off : Nat) (a' : Option Addr) (c : Nat), a = some ⟨b, off, none⟩ ∧ b < w.heap.size ∧ w.cell? ⟨b, off + i, none⟩ = some (.slice a' ks.length c) ∧ Ints w a' ks
theorem Lss.below {w w' : World} {a : Option Addr} {LL : List (List Int)} (h : Lss w a LL) {B : Nat} (hb : Below B w w') (hB : w.heap.size ≤ B) : Lss w' a LL := by
  refine ⟨h.1, fun i ks hi => ?_⟩
  obtain ⟨b, off, a', c, h1, h2, h3, h4⟩ := h.2 i ks hi
  have hs := hb.size
  exact ⟨b, off, a', c, h1, by omega, by rw [hb.cell (p := ⟨b, off + i, none⟩) (by show b < B; omega)]; exact h3, h4.below hb hB⟩

/-- What a visit's slices hold. -/
def Vis (w : World) (ast ae : Option Addr) (V : Vz) : Prop := Ints w ast V.st ∧ Lss w ae V.er
theorem Vis.below {w w' : World} {ast ae : Option Addr} {V : Vz} (h : Vis w ast ae V) {B : Nat} (hb : Below B w w') (hB : w.heap.size ≤ B) : Vis w' ast ae V := ⟨h.1.below hb hB, h.2.below hb hB⟩

/-- A visit that is valid (with one more copy, or one more change). -/
structure VOk (V : Vz) : Prop where
  nb3 : V.nb ≤ 3
  t6 : V.st.length ≤ 6
  st0 : ∀ x ∈ V.st, 0 ≤ x ∧ x ≤ 10
  er1 : V.er.length = V.st.length
  er2 : ∀ r ∈ V.er, r.length = V.nb
  er3 : ∀ r ∈ V.er, ∀ x ∈ r, 0 ≤ x ∧ x ≤ 999
  ch0 : 0 ≤ V.ch ∧ V.ch ≤ 4
  now : V.now.ok (2 ^ V.st.length)
  stay : V.stay.ok (2 ^ V.st.length)
theorem VOk.p64 {V : Vz} (h : VOk V) : 2 ^ V.st.length ≤ 64 := Nat.pow_le_pow_right (n := 2) (by omega) h.t6
theorem VOk.now64 {V : Vz} (h : VOk V) : V.now.ok 64 := h.now.le h.p64
theorem VOk.stay64 {V : Vz} (h : VOk V) : V.stay.ok 64 := h.stay.le h.p64

/-- In how many of the first k boxes a title is. -/
def copK (p : Pl) (i k : Nat) : Nat := ((List.range k).filter fun j => (p.get j).testBit i).length
def cop (p : Pl) (i : Nat) : Nat := copK p i 3
theorem copK_succ (p : Pl) (i k : Nat) : copK p i (k + 1) = copK p i k + if (p.get k).testBit i then 1 else 0 := by
  unfold copK
  rw [List.range_succ, List.filter_append, List.length_append]
  cases h : (p.get k).testBit i <;> simp [h]
theorem copK_le (p : Pl) (i k : Nat) : copK p i k ≤ k := Nat.le_trans (List.length_filter_le _ _) (by simp)

def mask (l : List Int) : Nat := l.foldl (fun t x => t ||| 2 ^ x.toNat) 0
theorem mask_snoc (l : List Int) (x : Int) : mask (l ++ [x]) = mask l ||| 2 ^ x.toNat := by simp [mask]
theorem pow_dec : ∀ n : Nat, n < 6 → 2 ^ n < 64 := by decide +kernel
theorem mask_lt {l : List Int} (h : ∀ x ∈ l, 0 ≤ x ∧ x < 6) : mask l < 64 := by
  have : ∀ (l : List Int) (t : Nat), t < 64 → (∀ x ∈ l, 0 ≤ x ∧ x < 6) → l.foldl (fun t x => t ||| 2 ^ x.toNat) t < 64 := by
    intro l
    induction l with
    | nil => intro t ht _; exact ht
    | cons x l ih =>
      intro t ht h
      have hx := h x (by simp)
      exact ih _ (or_dec t ht _ (pow_dec _ (by omega))).2 (fun y hy => h y (by simp [hy]))
  exact this l 0 (by omega) h

theorem shl_dec : ∀ q : Nat, q < 64 → ∀ n : Nat, n < 6 → bits BinOp.or IntKind.u8 (q : Int) (2 ^ n % 256) = ((q ||| 2 ^ n : Nat) : Int) := by decide +kernel

set_option maxRecDepth 100000 in
set_option maxHeartbeats 2000000 in
theorem copies_any (p : Pl) (hp : p.ok 64) (i : Nat) (hi : i < 6) (w : World) : Calls Try.prog 92 #[.agg #[.int .u8 (p.a : Int), .int .u8 (p.b : Int), .int .u8 (p.c : Int)], .int .i64 (i : Int)] w fun e w' => e = .returned (.int .i64 ((cop p i : Nat) : Int)) ∧ Below w.heap.size w w' := by
  obtain ⟨W, hW, hb, hs, x0⟩ := boxes1 w #[.int .u8 (p.a : Int), .int .u8 (p.b : Int), .int .u8 (p.c : Int)] 70
  clear hs
  have c0 := x0.cell 0 rfl; have c1 := x0.cell 1 rfl; have c2 := x0.cell 2 rfl
  go_enter Try.func92, Try.ntmps92
  go_wp2
  clear x0 c0 c1 c2
  have hh : ∀ k, k < 3 → Calls Try.prog 93 #[.int .u8 ((p.get k : Nat) : Int), .int .i64 (i : Int)] W fun e w' => e = .returned (.bool ((p.get k).testBit i)) ∧ W = w' := fun k _ => has_any _ _ (hp.get k) hi W
  go_loopw [5, 7, 9] (fun v5 v7 v9 wr => ∃ k : Nat, k ≤ 3 ∧ v9 = .int .i64 (k : Int) ∧ v5 = .int .i64 ((copK p i k : Nat) : Int) ∧ wr = W) (fun _ _ v9 _ => 3 - (intOf v9).toNat)
  case atStart => exact ⟨0, Nat.zero_le _, rfl, rfl, rfl⟩
  case round =>
    obtain ⟨k, hk, rfl, rfl, rfl⟩ := hrel
    by_cases hlt : k < 3
    · have hc := hh k hlt
      have hsc := copK_succ p i k
      have hle := copK_le p i k
      have hcI : ((copK p i k : Nat) : Int) ≤ 3 := by omega
      have ew : IntKind.i64.wrap (((copK p i k : Nat) : Int) + 1) = ((copK p i k : Nat) : Int) + 1 := IntWalk.i64_in _ (by omega)
      clear hh
      have hix := pl_index p hlt wr
      have hkI : (k : Int) < 3 := by omega
      have hk0 : (0 : Int) ≤ (k : Int) := by omega
      obtain ⟨q, hq⟩ : ∃ q, q = copK p i k := ⟨_, rfl⟩
      rw [← hq] at hsc hle hcI ew ⊢
      clear hq hle
      obtain ⟨g, hg⟩ : ∃ g, g = p.get k := ⟨_, rfl⟩
      rw [← hg] at hix hc hsc
      cases hbit : g.testBit i
      · rw [hbit] at hc hsc
        simp only [Bool.false_eq_true, if_false, Nat.add_zero] at hsc
        clear hbit hg
        go_wp2_with fail
        refine hc.mono ?_
        rintro e W1 ⟨rfl, rfl⟩
        go_wp2
        go_roundw
        case rel => exact ⟨k + 1, by omega, by simp, by rw [hsc], trivial⟩
        case measure => simp [intOf]; omega
      · rw [hbit] at hc hsc
        simp only [if_true] at hsc
        clear hbit hg
        go_wp2_with fail
        refine hc.mono ?_
        rintro e W1 ⟨rfl, rfl⟩
        go_wp2
        go_roundw
        case rel => exact ⟨k + 1, by omega, by simp, by rw [hsc]; simp, trivial⟩
        case measure => simp [intOf]; omega
    · obtain rfl : k = 3 := by omega
      go_wp2
      go_ret
      exact ⟨rfl, hb⟩

set_option maxRecDepth 100000 in
set_option maxHeartbeats 2000000 in
theorem titlesOf_any (a : Option Addr) (c : Nat) (l : List Int) (w : World) (hI : Ints w a l) (hl : ∀ x ∈ l, 0 ≤ x ∧ x < 6) : Calls Try.prog 80 #[.slice a l.length c] w fun e w' => e = .returned (.int .u8 ((mask l : Nat) : Int)) ∧ w = w' := by
  have hlen := hI.len
  have HL := hid hl
  clear hl
  obtain ⟨n, hn⟩ : ∃ n, n = l.length := ⟨_, rfl⟩
  rw [← hn] at hlen ⊢
  go_enter Try.func80, Try.ntmps80
  go_wp2
  go_loopw [3, 5, 8] (fun v3 v5 v8 wr => ∃ k : Nat, k ≤ n ∧ v8 = .int .i64 (k : Int) ∧ v3 = .int .u8 ((mask (l.take k) : Nat) : Int) ∧ wr = w) (fun _ _ v8 _ => n - (intOf v8).toNat)
  case atStart => exact ⟨0, Nat.zero_le _, rfl, rfl, rfl⟩
  case round =>
    obtain ⟨k, hk, rfl, rfl, rfl⟩ := hrel
    by_cases hlt : k < n
    · obtain ⟨b, off, x, rfl, hbl, hc, hx1, hx2, hg, _⟩ := hI.at (k := k) (by omega)
      have hx := HL.out x (List.mem_of_getElem? hg.out)
      obtain ⟨m, rfl⟩ := Int.eq_ofNat_of_zero_le hx.1
      have hm : m < 6 := by omega
      have ho1 := shl_dec (mask (l.take k)) (mask_lt fun y hy => HL.out y (List.mem_of_mem_take hy)) m hm
      have ht : l.take (k + 1) = l.take k ++ [(m : Int)] := by
        have := hg.out
        rw [List.take_add_one, this]; rfl
      have hms := mask_snoc (l.take k) (m : Int)
      rw [← ht] at hms
      simp only [Int.toNat_natCast] at hms
      have HM := hid hms
      obtain ⟨q, hq⟩ : ∃ q, q = mask (l.take k) := ⟨_, rfl⟩
      rw [← hq] at HM ho1 ⊢
      have hkI : (k : Int) < n := by omega
      have hk0 : (0 : Int) ≤ (k : Int) := by omega
      clear hq hms ht
      go_wp2
      go_roundw
      case rel => exact ⟨k + 1, by omega, by simp, by rw [HM.out], trivial⟩
      case measure => simp [intOf]; omega
    · obtain rfl : k = n := by omega
      have e : l.take k = l := List.take_of_length_le (by omega)
      rw [e]
      clear e
      go_wp2
      go_ret
      exact ⟨rfl, rfl⟩

def planL (LL : List (List Int)) (k : Nat) : Pl := ⟨if 0 < k then mask (LL.getD 0 []) else 0, if 1 < k then mask (LL.getD 1 []) else 0, if 2 < k then mask (LL.getD 2 []) else 0⟩
/-- The plan that lists are. -/
def planM (LL : List (List Int)) : Pl := planL LL LL.length
theorem planL_succ (LL : List (List Int)) {k : Nat} (hk : k < 3) : planL LL (k + 1) = (planL LL k).set k (mask (LL.getD k [])) := by
  match k, hk with
  | 0, _ => simp [planL, Pl.set]
  | 1, _ => simp [planL, Pl.set]
  | 2, _ => simp [planL, Pl.set]
theorem pl_set (p : Pl) {k : Nat} (hk : k < 3) (t : Nat) : (#[.int .u8 (p.a : Int), .int .u8 (p.b : Int), .int .u8 (p.c : Int)] : Array Value).setIfInBounds k (.int .u8 (t : Int)) = #[.int .u8 (((p.set k t).a : Nat) : Int), .int .u8 (((p.set k t).b : Nat) : Int), .int .u8 (((p.set k t).c : Nat) : Int)] := by
  match k, hk with
  | 0, _ => rfl
  | 1, _ => rfl
  | 2, _ => rfl

set_option maxRecDepth 100000 in
set_option maxHeartbeats 2000000 in
theorem planOf_any (a : Option Addr) (c : Nat) (LL : List (List Int)) (w : World) (hI : Lss w a LL) (h3 : LL.length ≤ 3) (hl : ∀ l ∈ LL, ∀ x ∈ l, 0 ≤ x ∧ x < 6) (p : Pl) (hp : p = planM LL) : Calls Try.prog 56 #[.slice a LL.length c] w fun e w' => e = .returned (.agg #[.int .u8 (p.a : Int), .int .u8 (p.b : Int), .int .u8 (p.c : Int)]) ∧ Below w.heap.size w w' := by
  have HL := hid hl
  have HP := hid hp
  clear hl hp
  obtain ⟨n, hn⟩ : ∃ n, n = LL.length := ⟨_, rfl⟩
  rw [← hn] at h3 ⊢
  have HN := hid hn
  clear hn
  obtain ⟨W, hW, hb, hs, x0, x1⟩ := boxes2 w #[.int .u8 0, .int .u8 0, .int .u8 0] 70 #[.int .u8 0, .int .u8 0, .int .u8 0] 70
  clear hs
  have hnI : (n : Int) ≤ 3 := by omega
  go_enter Try.func56, Try.ntmps56
  go_wp2
  go_loopw [4, 5, 8] (fun v4 v5 v8 wr => ∃ (k : Nat) (q : Pl), k ≤ n ∧ v8 = .int .i64 (k : Int) ∧ Hid (q = planL LL k) ∧ Bx wr (w.heap.size + 1) #[.int .u8 (q.a : Int), .int .u8 (q.b : Int), .int .u8 (q.c : Int)] 70 ∧ Bx wr w.heap.size #[.int .u8 0, .int .u8 0, .int .u8 0] 70 ∧ Below w.heap.size w wr) (fun _ _ v8 _ => n - (intOf v8).toNat)
  case atStart => exact ⟨0, pl0, Nat.zero_le _, rfl, hid rfl, x1, x0, hb⟩
  case round =>
    clear x1 x0 hb
    obtain ⟨k, q, hk, rfl, HQ, y1, y0, hb⟩ := hrel
    by_cases hlt : k < n
    · have hI1 := hI.below hb (Nat.le_refl _)
      obtain ⟨bl, off, a', c', rfl, hbl, hc, hi⟩ := hI1.2 k (LL.getD k []) (by rw [List.getD_eq_getElem?_getD, List.getElem?_eq_getElem (show k < LL.length by have := HN.out; omega)]; rfl)
      have hmem : LL.getD k [] ∈ LL := by
        rw [List.getD_eq_getElem?_getD, List.getElem?_eq_getElem (show k < LL.length by have := HN.out; omega)]; simp
      have ht := titlesOf_any a' c' _ wr hi (HL.out _ hmem)
      have hq2 := planL_succ LL (show k < 3 by omega)
      obtain ⟨L, hL⟩ : ∃ L, L = LL.getD k [] := ⟨_, rfl⟩
      rw [← hL] at hc hi ht hq2
      rw [← HQ.out] at hq2
      have hps := pl_set q (show k < 3 by omega) (mask L)
      obtain ⟨m, hm⟩ : ∃ m, m = mask L := ⟨_, rfl⟩
      rw [← hm] at ht hq2 hps
      have z0 := y1.free k
      have zc := y1.cell k (pl_at q (show k < 3 by omega))
      have y1' := y1.set k (.int .u8 (m : Int))
      rw [hps, ← hq2] at y1'
      have y0' := y0.other (a := ⟨w.heap.size + 1, k, none⟩) (by show w.heap.size ≠ w.heap.size + 1; omega) (.int .u8 (m : Int))
      have hb' := hb.setCell (p := ⟨w.heap.size + 1, k, none⟩) (by show w.heap.size ≤ w.heap.size + 1; omega) (.int .u8 (m : Int))
      have HZ := hid (And.intro y1' (And.intro y0' hb'))
      have hkI : (k : Int) < n := by omega
      have hk0 : (0 : Int) ≤ (k : Int) := by omega
      have hk3 : (k : Int) < 3 := by omega
      clear hL hq2 hm hps y1' y0' hb' hi hmem
      obtain ⟨ll, hll⟩ : ∃ ll, ll = L.length := ⟨_, rfl⟩
      rw [← hll] at hc ht
      clear hll
      go_wp2_with fail
      refine ht.mono ?_
      rintro e W1 ⟨rfl, rfl⟩
      go_wp2
      obtain ⟨y1', y0', hb'⟩ := HZ.out
      go_roundw
      case rel => exact ⟨k + 1, _, by omega, by simp, hid rfl, y1', y0', hb'⟩
      case measure => simp [intOf]; omega
    · obtain rfl : k = n := by omega
      have e : q = p := by rw [HQ.out, HP.out, HN.out]; rfl
      subst e
      have z0 := y1.cell 0 rfl; have z1 := y1.cell 1 rfl; have z2 := y1.cell 2 rfl
      have y0' := y0.set3 (.int .u8 (q.a : Int)) (.int .u8 (q.b : Int)) (.int .u8 (q.c : Int))
      have r0 := y0'.cell 0 rfl; have r1 := y0'.cell 1 rfl; have r2 := y0'.cell 2 rfl
      have f0 := y0.free 0; have f1 := y0.free 1; have f2 := y0.free 2
      have k0 := y0.cell 0 rfl; have k1 := y0.cell 1 rfl; have k2 := y0.cell 2 rfl
      have HB := hid (((hb.setCell (p := ⟨w.heap.size, 0, none⟩) (Nat.le_refl _) (.int .u8 (q.a : Int))).setCell (p := ⟨w.heap.size, 1, none⟩) (Nat.le_refl _) (.int .u8 (q.b : Int))).setCell (p := ⟨w.heap.size, 2, none⟩) (Nat.le_refl _) (.int .u8 (q.c : Int)))
      clear y0' y0 y1 hb
      go_wp2
      refine bodyPost_ret (v := .agg #[.int .u8 (q.a : Int), .int .u8 (q.b : Int), .int .u8 (q.c : Int)]) ?_ rfl ⟨rfl, HB.out⟩
      simp [results, Try.results56, go_sem, r0, r1, r2]
end Go.Proofs.Ytipdohpbilabiaa
