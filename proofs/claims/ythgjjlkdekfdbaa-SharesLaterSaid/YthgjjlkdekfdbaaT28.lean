import Derived.Test.YthgjjlkdekfdbaaT27
import Derived.Test.YthgjjlkdekfdbaaT22
import Derived.Test.YthgjjlkdekfdbaaT12
/-! The reference's Orders: rows of rows. -/
namespace Go.Proofs.Ythgjjlkdekfdbaa
set_option linter.unusedSimpArgs false
set_option linter.unusedVariables false
open Go.RowKit

theorem ordsR_len (n : Nat) : ∀ (r : Nat) (f : List Int), (ordsR n r f).length ≤ n ^ r
  | 0, f => by simp [ordsR]
  | r + 1, f => by
    have hr : ∀ k, (ordsN n r f k).length ≤ k * n ^ r := fun k => by
      induction k with
      | zero => simp [ordsN]
      | succ k ih =>
        rw [ordsN_next, List.length_append, Nat.succ_mul]
        have := ordsR_len n r (f ++ [(k : Int)])
        split
        · simp only [List.length_nil]; omega
        · omega
    have h1 := hr n
    rw [Nat.pow_succ, Nat.mul_comm]
    exact h1
theorem ordsN_len (n r : Nat) (f : List Int) (k : Nat) : (ordsN n r f k).length ≤ k * n ^ r := by
  induction k with
  | zero => simp [ordsN]
  | succ k ih =>
    rw [ordsN_next, List.length_append, Nat.succ_mul]
    have := ordsR_len n r (f ++ [(k : Int)])
    split
    · simp only [List.length_nil]; omega
    · omega
/-- A value that reads as a list of numbers, whose memory is not that of a row, and not below B. -/
def Ls (w : World) (B : Nat) (own : Option Nat) (x : Value) (ks : List Int) : Prop :=
  ∃ (a : Option Addr) (c : Nat), x = .slice a ks.length c ∧ Ints w a ks ∧ ∀ ad, a = some ad → B ≤ ad.block ∧ ad.block < w.heap.size ∧ own ≠ some ad.block
theorem Ls.gro {w w' : World} {B : Nat} {own own' r : Option Nat} {x : Value} {ks : List Int} (h : Ls w B own x ks) (hg : w.grownBy w' r) (hr : ∀ k, r = some k → own = some k) (ho : own' = own ∨ ∃ k, own' = some k ∧ w.heap.size ≤ k) : Ls w' B own' x ks := by
  obtain ⟨a, c, h1, h2, h3⟩ := h
  refine ⟨a, c, h1, h2.gro hg (fun ad e hh => (h3 ad e).2.2 (hr _ hh)), fun ad e => ?_⟩
  obtain ⟨b1, b2, b3⟩ := h3 ad e
  refine ⟨b1, Nat.lt_of_lt_of_le b2 hg.size, fun e2 => ?_⟩
  rcases ho with rfl | ⟨k, rfl, hk⟩
  · exact b3 e2
  · cases e2; omega
/-- Values that read as lists. -/
def Rw (w : World) (B : Nat) (own : Option Nat) : List Value → List (List Int) → Prop
  | [], [] => True
  | x :: vs, ks :: LL => Ls w B own x ks ∧ Rw w B own vs LL
  | [], _ :: _ => False
  | _ :: _, [] => False
theorem Rw.map {w w' : World} {B B' : Nat} {own own' : Option Nat} (hf : ∀ x ks, Ls w B own x ks → Ls w' B' own' x ks) : ∀ {vs : List Value} {LL : List (List Int)}, Rw w B own vs LL → Rw w' B' own' vs LL
  | [], [], _ => trivial
  | _ :: _, _ :: _, h => ⟨hf _ _ h.1, Rw.map hf h.2⟩
  | [], _ :: _, h => h.elim
  | _ :: _, [], h => h.elim
theorem Rw.app {w : World} {B : Nat} {own : Option Nat} {us : List Value} {MM : List (List Int)} (k : Rw w B own us MM) : ∀ {vs : List Value} {LL : List (List Int)}, Rw w B own vs LL → Rw w B own (vs ++ us) (LL ++ MM)
  | [], [], _ => k
  | _ :: _, _ :: _, h => ⟨h.1, Rw.app k h.2⟩
  | [], _ :: _, h => h.elim
  | _ :: _, [], h => h.elim
theorem Rw.len {w : World} {B : Nat} {own : Option Nat} : ∀ {vs : List Value} {LL : List (List Int)}, Rw w B own vs LL → vs.length = LL.length
  | [], [], _ => rfl
  | _ :: _, _ :: _, h => by simp [Rw.len h.2]
  | [], _ :: _, h => h.elim
  | _ :: _, [], h => h.elim
theorem Rw.at {w : World} {B : Nat} {own : Option Nat} : ∀ {vs : List Value} {LL : List (List Int)}, Rw w B own vs LL → ∀ (i : Nat) (ks : List Int), LL[i]? = some ks → ∃ x, vs[i]? = some x ∧ Ls w B own x ks
  | [], [], _, i, ks, hi => by simp at hi
  | x :: _, k :: _, h, 0, ks, hi => by
    simp at hi; subst hi; exact ⟨x, rfl, h.1⟩
  | _ :: _, _ :: _, h, i + 1, ks, hi => by
    obtain ⟨x, hx, hl⟩ := Rw.at h.2 i ks (by simpa using hi)
    exact ⟨x, by simpa using hx, hl⟩
  | [], _ :: _, h, _, _, _ => h.elim
  | _ :: _, [], h, _, _, _ => h.elim
theorem Rw.one {w : World} {B : Nat} {own : Option Nat} : ∀ {vs : List Value} {LL : List (List Int)}, Rw w B own vs LL → ∀ u ∈ vs, u.oneCell' = true
  | [], [], _, u, hu => by simp at hu
  | x :: _, k :: _, h, u, hu => by
    rcases List.mem_cons.1 hu with rfl | hu
    · obtain ⟨a, c, rfl, -⟩ := h.1; rfl
    · exact Rw.one h.2 u hu
  | [], _ :: _, h, _, _ => h.elim
  | _ :: _, [], h, _, _ => h.elim

theorem ext_step {wj W1 W2 : World} {v v2 : Value} {ks : List Int} {k : Int} (hb1 : Below wj.heap.size wj W1) (hrow : W1.ownsRow wj.heap.size 3 1 v ks.length (ks.map (Value.int .i64)))
    (hrow2 : W2.ownsRow wj.heap.size 3 1 v2 (ks.length + 1) (ks.map (Value.int .i64) ++ [.int .i64 k])) (hg2 : (W1.alloc (.cells #[.int .i64 k] 3)).grownBy W2 v.ownBlock) (hkl : ks.length ≤ 10) (hka : ∀ x ∈ ks, 0 ≤ x ∧ x ≤ 12) (hkB : 0 ≤ k ∧ k ≤ 12) :
    Below wj.heap.size wj W2 ∧ ∃ (a2 : Option Addr) (c2 : Nat), v2 = .slice a2 (ks ++ [k]).length c2 ∧ Ints W2 a2 (ks ++ [k]) ∧ (∀ ad, a2 = some ad → wj.heap.size ≤ ad.block ∧ ad.block < W2.heap.size) := by
  have hb12 : Below wj.heap.size wj W2 := (hb1.trans ((below_one (w := W1) (.cells #[.int .i64 k] 3)).mono hb1.size)).grown hg2 (by have := hb1.size; simp; omega) (own_ge hrow)
  have hln : (ks ++ [k]).length = ks.length + 1 := by rw [List.length_append]; rfl
  have hrow2' : W2.ownsRow wj.heap.size 3 1 v2 (ks ++ [k]).length ((ks ++ [k]).map (Value.int .i64)) := by rw [hln]; simpa using hrow2
  have hrng : ∀ x ∈ ks ++ [k], -9223372036854775808 ≤ x ∧ x ≤ 9223372036854775807 := fun x hx => by
    rcases List.mem_append.1 hx with h | h
    · have := hka x h; omega
    · rw [List.mem_singleton.1 h]; omega
  obtain ⟨a2, c2, rfl, hi2⟩ := Ints.of_own hrow2' (by omega) hrng
  refine ⟨hb12, a2, c2, rfl, hi2, fun ad e => ⟨own_new hrow2' ad e, ?_⟩⟩
  obtain ⟨b, off, e2, hb, _⟩ := hi2.2.2 0 (by omega)
  rw [e] at e2
  cases e2
  exact hb
theorem Cls.of_own2 {w : World} {base : Nat} {t : TypeId} {a : Option Addr} {n c : Nat} {xs : List Value} (h : w.ownsRow base t 1 (.slice a n c) n xs) : Cls w a xs := fun j u hj => by
  have hlen : xs.length = n * 1 := h.1
  have hj2 : j < xs.length := by
    rcases Nat.lt_or_ge j xs.length with hl | hl
    · exact hl
    · rw [List.getElem?_eq_none hl] at hj; cases hj
  obtain ⟨g, cap, e⟩ := Go.Joins.ownsRow_form h (by omega)
  simp only [Value.slice.injEq] at e
  obtain ⟨rfl, _, rfl⟩ := e
  have hc := h.cellAt j (by omega)
  exact ⟨g, 0, rfl, (h.lt g rfl).2, by rw [Nat.zero_add, hc]; exact hj⟩


theorem under82 : Try.prog.underlying 82 = some (.slice 41) := by kernel_rfl
theorem info41 : (Try.prog.info? 41).map (fun i => (i.zero, i.size, i.bytes)) = some (some (.slice none 0 0), 1, 24) := by kernel_rfl
def OrdsP (B : Nat) (LL : List (List Int)) (w : World) (e : Ending) (w' : World) : Prop :=
  Below w.heap.size w w' ∧ ∃ (a : Option Addr) (c : Nat) (vs : List Value), e = .returned (.slice a LL.length c) ∧ w'.ownsRow w.heap.size 41 1 (.slice a LL.length c) LL.length vs ∧ Rw w' B (Value.slice a LL.length c).ownBlock vs LL
set_option maxRecDepth 100000 in
set_option maxHeartbeats 4000000 in
theorem orders_rec (m : Nat) (h4 : m ≤ 5) : ∀ (r : Nat) (f : List Int) (a1 : Option Addr) (c1 : Nat) (w : World) (B : Nat), Ints w a1 f → (∀ x ∈ f, 0 ≤ x ∧ x ≤ 12) → f.length + r = m → B ≤ w.heap.size → (∀ ad, a1 = some ad → B ≤ ad.block ∧ ad.block < w.heap.size) →
    Calls Try.prog 64 #[.int .i64 (m : Int), .slice a1 f.length c1] w (OrdsP B (ordsR m r f) w) := by
  obtain ⟨j0, hj, jz0, jz1, jz2⟩ := info_parts info3i
  obtain ⟨i0, hi0, iz0, iz1, iz2⟩ := info_parts info41
  intro r
  induction r with
  | zero =>
    intro f a1 c1 w B hF hfr hl hB ha1
    have he : f.length = m := by omega
    have hE : ((f.length : Int) == (m : Int)) = true := by simp [he]
    have HE := hid he; clear he hl
    go_enter Try.func64, Try.ntmps64
    go_wp2
    go_ret
    have hrow := World.ownsRow_lit (base := w.heap.size) (e := 41) (size := 1) w #[.slice a1 f.length c1] 1 (Nat.le_refl _) (by unfold maxLen; omega) (by simp)
    refine ⟨below_one _, some ⟨w.heap.size, 0, none⟩, 1, _, rfl, hrow, ⟨a1, c1, rfl, hF.below (below_one _) (Nat.le_refl _), fun ad e => ?_⟩, trivial⟩
    obtain ⟨b1, b2⟩ := ha1 ad e
    refine ⟨b1, by simp; omega, fun e2 => ?_⟩
    simp [Value.ownBlock] at e2
    omega
  | succ r ih =>
    intro f a1 c1 w B hF0 hfr hl hB ha1
    have hE : ((f.length : Int) == (m : Int)) = false := by simp; omega
    have hr3 : r ≤ 4 := by omega
    have HLR := hid hl
    have hfl : f.length ≤ 5 := by omega
    have hmI : (m : Int) ≤ 5 := by omega
    have hpow : m ^ r ≤ 625 := Nat.le_trans (Nat.pow_le_pow_left h4 r) (Nat.pow_le_pow_right (n := 5) (by omega) hr3)
    clear hl
    go_enter Try.func64, Try.ntmps64
    go_wp2
    go_loopw [5, 6] (fun v5 v6 wr => ∃ (k : Nat) (a : Option Addr) (c : Nat) (vs : List Value), k ≤ m ∧ v6 = .int .i64 (k : Int) ∧ v5 = .slice a (ordsN m r f k).length c ∧ wr.ownsRow w.heap.size 41 1 (.slice a (ordsN m r f k).length c) (ordsN m r f k).length vs ∧ Below w.heap.size w wr ∧ Rw wr B (Value.slice a (ordsN m r f k).length c).ownBlock vs (ordsN m r f k)) (fun _ v6 _ => m - (intOf v6).toNat)
    case atStart => exact ⟨0, none, 0, [], Nat.zero_le _, rfl, rfl, World.ownsRow_nil _ _ _ _, Below.refl _ _, trivial⟩
    case round =>
      obtain ⟨k, a, c, vs, hk, rfl, rfl, hown, hb, hrw⟩ := hrel
      obtain ⟨wo, rfl⟩ : ∃ wo : World, wo = wr := ⟨_, rfl⟩
      by_cases hlt : k < m
      · have hkI : (k : Int) < (m : Int) := by omega
        have hin := (in_any a1 c1 f (k : Int) wo (hF0.below hb (Nat.le_refl _))).mono (fun e w' h => And.intro h.1 (Below.of_eq (B := wo.heap.size) h.2))
        cases hbb : inL (k : Int) f
        · rw [hbb] at hin
          have hnx := ordsN_yes (n := m) (r := r) hbb
          have HN := hid hnx
          clear hnx hbb
          have hpl := ordsN_len m r f k
          have hpl3 : k * m ^ r ≤ 5 * 625 := Nat.mul_le_mul (by omega) hpow
          have hpl2 := ordsR_len m r (f ++ [(k : Int)])
          obtain ⟨p, hp⟩ : ∃ p, p = (ordsN m r f k).length := ⟨_, rfl⟩
          rw [← hp] at hown hrw hpl
          (try rw [← hp])
          have hpb : p ≤ 3125 := by omega
          have Hp := hid hp
          clear hp hpl hpl3
          go_wp2_with fail
          refine hin.mono ?_
          rintro e wj ⟨rfl, hbj⟩
          have hwo := hb.size
          have hownj := own_below2 hown hbj
          have hrwj : Rw wj B (Value.slice a p c).ownBlock vs (ordsN m r f k) := Rw.map (fun x ks h => h.gro (Below.gr' hbj) (fun k hk => by cases hk) (.inl rfl)) hrw
          have hbw := hb.trans (hbj.mono hb.size)
          clear hin hown hrw hbj hb
          have hF := hF0.below hbw (Nat.le_refl _)
          have hnb : (0 : Int) ≤ (k : Int) ∧ (k : Int) ≤ 12 := by omega
          have hA := own_lit0 wj 3 1
          have hb1 := below_one (w := wj) (.cells #[] 3)
          have hcl := (hF.below hb1 (Nat.le_refl _)).cls
          go_wp2_with (first
            | (at_builtin; refine wpList_app rfl (.tmp 24) (.tmp 25) 41 rfl wj.heap.size 3 j0 (.int .i64 0) 1 8 under41 hj jz0 jz1 jz2 rfl (by decide) _ 0 [] rfl hA a1 f.length c1 (f.map (Value.int .i64)) rfl (by simp) hcl (ints_one f) (by unfold maxLen; omega) (by omega) (by simp) ?_
               intro v1 W1 hown1 hg1
               have hb1' := hb1.grown hg1 (by simp) (own_ge hA)
               rw [Nat.zero_add, List.nil_append] at hown1
               have hsz1 := hb1'.size)
            | (at_builtin; refine wpList_append_own _ rfl _ _ 41 rfl wj.heap.size 3 j0 (.int .i64 0) 1 8 under41 hj jz0 jz1 jz2 rfl (by decide) v1 f.length _ rfl (hown1.alloc _) ⟨W1.heap.size, 0, none⟩ 1 1 [.int .i64 (k : Int)] rfl rfl (cell_one_new _ _ _) (ints_oneCell .i64 [(k : Int)]) (by unfold maxLen; omega) (by omega) (by simp; omega) ?_
               intro v2 W2 hrow2 hg2 _
               obtain ⟨hb12, a2, c2, rfl, hi2, hblk⟩ := ext_step hb1' hown1 hrow2 hg2 (by omega) hfr hnb))
          have hf2 : ∀ y ∈ f ++ [(k : Int)], 0 ≤ y ∧ y ≤ 12 := fun y hy => by
            rcases List.mem_append.1 hy with h | h
            · exact hfr y h
            · rw [List.mem_singleton.1 h]; exact hnb
          have hln : (f ++ [(k : Int)]).length = f.length + 1 := by rw [List.length_append]; rfl
          have ihc := ih (f ++ [(k : Int)]) a2 c2 W2 wj.heap.size hi2 hf2 (by have := HLR.out; rw [hln]; omega) hb12.size hblk
          rw [hln] at ihc
          obtain ⟨LL, hLL⟩ : ∃ LL, LL = ordsR m r (f ++ [(k : Int)]) := ⟨_, rfl⟩
          rw [← hLL] at ihc hpl2
          have hnx := HN.out
          rw [← hLL] at hnx
          have HN := hid hnx; have HLL := hid hLL; clear hLL
          clear hnx
          have hlb : LL.length ≤ 625 := by omega
          refine ihc.mono ?_
          rintro e W4 ⟨hb4, a4, c4, us, rfl, hown4, hrw4⟩
          have hb24 : Below wj.heap.size wj W4 := hb12.trans (hb4.mono hb12.size)
          have hown5 := own_below2 hownj hb24
          have hcl4 := Cls.of_own2 hown4
          have hul := hrw4.len
          have hge5 := own_ge2 hown5
          have hlt5 : ∀ k, (Value.slice a p c).ownBlock = some k → k < wj.heap.size := fun k hk => (hownj.lt k hk).2
          have hsz4 := hb24.size
          have hwj := hbw.size
          clear ihc hcl hA hb1 hown1 hb1' hsz1 hg1 hi2 hblk hrow2 hg2
          go_wp2_with (at_builtin; refine wpList_appAt rfl (.tmp 22) (.tmp 30) 82 rfl w.heap.size 41 i0 (.slice none 0 0) 1 24 under82 hi0 iz0 iz1 iz2 rfl (by decide) (.slice a p c) p vs rfl hown5 a4 LL.length c4 us rfl (by omega) hcl4 hrw4.one (by unfold maxLen; omega) (by omega) (by omega) ?_; intro v3 W5 hown6 hg6 hat)
          obtain ⟨a6, c6, rfl⟩ := own_slice2 hown6
          have hat2 : (Value.slice a6 (p + LL.length) c6).ownBlock = (Value.slice a p c).ownBlock ∨ ∃ k, (Value.slice a6 (p + LL.length) c6).ownBlock = some k ∧ W4.heap.size ≤ k := by
            rcases hat with h | h
            · exact .inl h
            · exact .inr ⟨_, h, Nat.le_refl _⟩
          have hrw1 : Rw W5 B (Value.slice a6 (p + LL.length) c6).ownBlock vs (ordsN m r f k) :=
            Rw.map (fun x ks h => (h.gro (Below.gr' hb24) (fun k hk => by cases hk) (.inl rfl)).gro hg6 (fun k hk => hk) hat2) hrwj
          have hrw2 : Rw W5 B (Value.slice a6 (p + LL.length) c6).ownBlock us LL := by
            refine Rw.map (fun x ks h => ?_) hrw4
            obtain ⟨q1, q2, q3, q4, q5⟩ := h
            have h' : Ls W4 B (Value.slice a p c).ownBlock x ks := ⟨q1, q2, q3, q4, fun ad e => by
              obtain ⟨z1, z2, _⟩ := q5 ad e
              exact ⟨by omega, z2, fun e2 => by have := hlt5 _ e2; omega⟩⟩
            exact h'.gro hg6 (fun k hk => hk) hat2
          have hrw3 := Rw.app hrw2 hrw1
          have hb5 : Below w.heap.size w W5 := (hbw.trans (hb24.mono hbw.size)).grown hg6 (by omega) hge5
          have hlen2 : (ordsN m r f (k + 1)).length = p + LL.length := by rw [HN.out, List.length_append, Hp.out]
          have HL := hid hlen2
          rw [← HN.out] at hrw3
          clear hlen2 hrw1 hrw2 hg6 hat hat2 hown5 hownj hrwj hrw4 hown4 hcl4 hge5 hlt5
          go_roundw
          case rel => exact ⟨k + 1, a6, c6, vs ++ us, by omega, by go_num, by rw [HL.out], by rw [HL.out]; exact hown6, hb5, by rw [HL.out]; exact hrw3⟩
          case measure => simp [intOf]; omega
        · rw [hbb] at hin
          have hnx := ordsN_no (n := m) (r := r) hbb
          have HN := hid hnx
          clear hnx hbb
          obtain ⟨Nn, hNn⟩ : ∃ Nn, Nn = ordsN m r f k := ⟨_, rfl⟩
          rw [← hNn] at hown hrw HN
          (try rw [← hNn])
          obtain ⟨p, hp⟩ : ∃ p, p = Nn.length := ⟨_, rfl⟩
          rw [← hp] at hown hrw
          (try rw [← hp])
          have Hp := hid hp
          clear hp hNn
          go_wp2_with fail
          refine hin.mono ?_
          rintro e wj ⟨rfl, hbj⟩
          have hownj := own_below2 hown hbj
          have hrwj : Rw wj B (Value.slice a p c).ownBlock vs Nn := Rw.map (fun x ks h => h.gro (Below.gr' hbj) (fun k hk => by cases hk) (.inl rfl)) hrw
          have hbw := hb.trans (hbj.mono hb.size)
          clear hin hown hrw hbj hb
          go_wp2
          go_roundw
          case rel => exact ⟨k + 1, a, c, vs, by omega, by go_num, by rw [HN.out, Hp.out], by rw [HN.out, ← Hp.out]; exact hownj, hbw, by rw [HN.out, ← Hp.out]; exact hrwj⟩
          case measure => simp [intOf]; omega
      · have hkm : k = m := by omega
        have hkI : (m : Int) ≤ (k : Int) := by omega
        have hres : OrdsP B (ordsR m (r + 1) f) w (.returned (.slice a (ordsN m r f k).length c)) wo := by
          have e : ordsR m (r + 1) f = ordsN m r f k := by rw [hkm]; rfl
          rw [e]
          exact ⟨hb, a, c, vs, rfl, hown, hrw⟩
        have HRS := hid hres
        clear hres hown hrw hkm
        go_wp2
        go_ret
        exact HRS.out
end Go.Proofs.Ythgjjlkdekfdbaa
