import Derived.Test.YtmkmnedojgigoaaX4
import Derived.Test.YtmkmnedojgigoaaR1
import Derived.Test.YtmkmnedojgigoaaZ3
import Derived.Test.YtmkmnedojgigoaaW5
namespace Go.Proofs.Ytmkmnedojgigoaa
open Go.RowKit

/-- A value that reads as a list of numbers, whose memory is not that of a row, and not below B. -/
def Ls (w : World) (B : Nat) (own : Option Nat) (x : Value) (ks : List Int) : Prop :=
  ∃ (a : Option Addr) (c : Nat), x = .slice a ks.length c ∧ Ints w a ks ∧ ∀ ad, a = some ad → B ≤ ad.block ∧ ad.block < w.heap.size ∧ own ≠ some ad.block
theorem Ls.gro {w w' : World} {B : Nat} {own own' r : Option Nat} {x : Value} {ks : List Int} (h : Ls w B own x ks) (hg : w.grownBy w' r) (hr : ∀ k, r = some k → own = some k) (ho : own' = own ∨ ∃ k, own' = some k ∧ w.heap.size ≤ k) : Ls w' B own' x ks := by
  obtain ⟨a, c, h1, h2, h3⟩ := h
  refine ⟨a, c, h1, h2.gro hg (fun ad e hh => (h3 ad e).2.2 (hr _ hh)), fun ad e => ?_⟩
  obtain ⟨b1, b2, b3⟩ := h3 ad e
  refine ⟨b1, Nat.lt_of_lt_of_le b2 hg.size, fun e2 => ?_⟩
  rcases ho with rfl | ⟨k, rfl, hk⟩
  · exact b3 e2
  · cases e2; omega
/-- Values that read as lists. -/
def Rw (w : World) (B : Nat) (own : Option Nat) : List Value → List (List Int) → Prop
  | [], [] => True
  | x :: vs, ks :: LL => Ls w B own x ks ∧ Rw w B own vs LL
  | [], _ :: _ => False
  | _ :: _, [] => False
theorem Rw.map {w w' : World} {B B' : Nat} {own own' : Option Nat} (hf : ∀ x ks, Ls w B own x ks → Ls w' B' own' x ks) : ∀ {vs : List Value} {LL : List (List Int)}, Rw w B own vs LL → Rw w' B' own' vs LL
  | [], [], _ => trivial
  | _ :: _, _ :: _, h => ⟨hf _ _ h.1, Rw.map hf h.2⟩
  | [], _ :: _, h => h.elim
  | _ :: _, [], h => h.elim
theorem Rw.app {w : World} {B : Nat} {own : Option Nat} {us : List Value} {MM : List (List Int)} (k : Rw w B own us MM) : ∀ {vs : List Value} {LL : List (List Int)}, Rw w B own vs LL → Rw w B own (vs ++ us) (LL ++ MM)
  | [], [], _ => k
  | _ :: _, _ :: _, h => ⟨h.1, Rw.app k h.2⟩
  | [], _ :: _, h => h.elim
  | _ :: _, [], h => h.elim
theorem Rw.len {w : World} {B : Nat} {own : Option Nat} : ∀ {vs : List Value} {LL : List (List Int)}, Rw w B own vs LL → vs.length = LL.length
  | [], [], _ => rfl
  | _ :: _, _ :: _, h => by simp [Rw.len h.2]
  | [], _ :: _, h => h.elim
  | _ :: _, [], h => h.elim
theorem Rw.at {w : World} {B : Nat} {own : Option Nat} : ∀ {vs : List Value} {LL : List (List Int)}, Rw w B own vs LL → ∀ (i : Nat) (ks : List Int), LL[i]? = some ks → ∃ x, vs[i]? = some x ∧ Ls w B own x ks
  | [], [], _, i, ks, hi => by simp at hi
  | x :: _, k :: _, h, 0, ks, hi => by
    simp at hi; subst hi; exact ⟨x, rfl, h.1⟩
  | _ :: _, _ :: _, h, i + 1, ks, hi => by
    obtain ⟨x, hx, hl⟩ := Rw.at h.2 i ks (by simpa using hi)
    exact ⟨x, by simpa using hx, hl⟩
  | [], _ :: _, h, _, _, _ => h.elim
  | _ :: _, [], h, _, _, _ => h.elim
theorem Rw.one {w : World} {B : Nat} {own : Option Nat} : ∀ {vs : List Value} {LL : List (List Int)}, Rw w B own vs LL → ∀ u ∈ vs, u.oneCell' = true
  | [], [], _, u, hu => by simp at hu
  | x :: _, k :: _, h, u, hu => by
    rcases List.mem_cons.1 hu with rfl | hu
    · obtain ⟨a, c, rfl, -⟩ := h.1; rfl
    · exact Rw.one h.2 u hu
  | [], _ :: _, h, _, _ => h.elim
  | _ :: _, [], h, _, _ => h.elim

/-- All lists that begin with one, and go on with numbers up to these. -/
def partsR : List Int → List Int → List (List Int)
  | [], f => [f]
  | x :: r, f => (List.range (x.toNat + 1)).flatMap fun (n : Nat) => partsR r (f ++ [(n : Int)])
/-- The first of them. -/
def partsN (r f : List Int) (n : Nat) : List (List Int) := (List.range n).flatMap fun (n : Nat) => partsR r (f ++ [(n : Int)])
theorem partsN_next (r f : List Int) (n : Nat) : partsN r f (n + 1) = partsN r f n ++ partsR r (f ++ [(n : Int)]) := by simp [partsN, List.range_succ]
theorem partsR_len : ∀ (r f : List Int), (∀ x ∈ r, 0 ≤ x ∧ x ≤ 12) → (partsR r f).length ≤ 13 ^ r.length
  | [], f, _ => by simp [partsR]
  | x :: r, f, h => by
    have hx := h x (by simp)
    have hr : ∀ n, (partsN r f n).length ≤ n * 13 ^ r.length := fun n => by
      induction n with
      | zero => simp [partsN]
      | succ n ih =>
        rw [partsN_next, List.length_append, Nat.succ_mul]
        have := partsR_len r (f ++ [(n : Int)]) (fun y hy => h y (by simp [hy]))
        omega
    have h1 := hr (x.toNat + 1)
    have h2 : (x.toNat + 1) * 13 ^ r.length ≤ 13 * 13 ^ r.length := Nat.mul_le_mul_right _ (by omega)
    rw [List.length_cons, Nat.pow_succ, Nat.mul_comm (13 ^ r.length) 13]
    exact Nat.le_trans h1 h2
theorem partsN_len {r f : List Int} (h : ∀ x ∈ r, 0 ≤ x ∧ x ≤ 12) (h3 : r.length ≤ 3) : ∀ n, n ≤ 13 → (partsN r f n).length ≤ 13 ^ 4 := fun n hn => by
  have hr : ∀ n, (partsN r f n).length ≤ n * 13 ^ r.length := fun n => by
    induction n with
    | zero => simp [partsN]
    | succ n ih =>
      rw [partsN_next, List.length_append, Nat.succ_mul]
      have := partsR_len r (f ++ [(n : Int)]) h
      omega
  have h1 := hr n
  have h2 : n * 13 ^ r.length ≤ 13 * 13 ^ 3 := Nat.mul_le_mul hn (Nat.pow_le_pow_right (by omega) h3)
  exact Nat.le_trans h1 h2

def PartsP (B : Nat) (LL : List (List Int)) (w : World) (e : Ending) (w' : World) : Prop :=
  Below w.heap.size w w' ∧ ∃ (a : Option Addr) (c : Nat) (vs : List Value), e = .returned (.slice a LL.length c) ∧ w'.ownsRow w.heap.size 22 1 (.slice a LL.length c) LL.length vs ∧ Rw w' B (Value.slice a LL.length c).ownBlock vs LL

theorem ext_step {wj W1 W2 : World} {v v2 : Value} {ks : List Int} {k : Int} (hb1 : Below wj.heap.size wj W1) (hrow : W1.ownsRow wj.heap.size 3 1 v ks.length (ks.map (Value.int .i64)))
    (hrow2 : W2.ownsRow wj.heap.size 3 1 v2 (ks.length + 1) (ks.map (Value.int .i64) ++ [.int .i64 k])) (hg2 : (W1.alloc (.cells #[.int .i64 k] 3)).grownBy W2 v.ownBlock) (hkl : ks.length ≤ 10) (hka : ∀ x ∈ ks, 0 ≤ x ∧ x ≤ 12) (hkB : 0 ≤ k ∧ k ≤ 12) :
    Below wj.heap.size wj W2 ∧ ∃ (a2 : Option Addr) (c2 : Nat), v2 = .slice a2 (ks ++ [k]).length c2 ∧ Ints W2 a2 (ks ++ [k]) ∧ (∀ ad, a2 = some ad → wj.heap.size ≤ ad.block ∧ ad.block < W2.heap.size) := by
  have hb12 : Below wj.heap.size wj W2 := (hb1.trans ((below_one (w := W1) (.cells #[.int .i64 k] 3)).mono hb1.size)).grown hg2 (by have := hb1.size; simp; omega) (own_ge hrow)
  have hln : (ks ++ [k]).length = ks.length + 1 := by rw [List.length_append]; rfl
  have hrow2' : W2.ownsRow wj.heap.size 3 1 v2 (ks ++ [k]).length ((ks ++ [k]).map (Value.int .i64)) := by rw [hln]; simpa using hrow2
  have hrng : ∀ x ∈ ks ++ [k], -9223372036854775808 ≤ x ∧ x ≤ 9223372036854775807 := fun x hx => by
    rcases List.mem_append.1 hx with h | h
    · have := hka x h; omega
    · rw [List.mem_singleton.1 h]; omega
  obtain ⟨a2, c2, rfl, hi2⟩ := Ints.of_own hrow2' (by omega) hrng
  refine ⟨hb12, a2, c2, rfl, hi2, fun ad e => ⟨own_new hrow2' ad e, ?_⟩⟩
  obtain ⟨b, off, e2, hb, _⟩ := hi2.2.2 0 (by omega)
  rw [e] at e2
  cases e2
  exact hb
theorem Cls.of_own2 {w : World} {base : Nat} {t : TypeId} {a : Option Addr} {n c : Nat} {xs : List Value} (h : w.ownsRow base t 1 (.slice a n c) n xs) : Cls w a xs := fun j u hj => by
  have hlen : xs.length = n * 1 := h.1
  have hj2 : j < xs.length := by
    rcases Nat.lt_or_ge j xs.length with hl | hl
    · exact hl
    · rw [List.getElem?_eq_none hl] at hj; cases hj
  obtain ⟨g, cap, e⟩ := Go.Joins.ownsRow_form h (by omega)
  simp only [Value.slice.injEq] at e
  obtain ⟨rfl, _, rfl⟩ := e
  have hc := h.cellAt j (by omega)
  exact ⟨g, 0, rfl, (h.lt g rfl).2, by rw [Nat.zero_add, hc]; exact hj⟩

set_option maxRecDepth 100000 in
set_option maxHeartbeats 2000000 in
theorem parts_rec (xs : List Int) (aX : Option Addr) (cX : Nat) (hx : ∀ x ∈ xs, 0 ≤ x ∧ x ≤ 12) (h4 : xs.length ≤ 4) : ∀ (r f : List Int) (a1 : Option Addr) (c1 : Nat) (w : World) (B : Nat), Ints w aX xs → Ints w a1 f → (∀ x ∈ f, 0 ≤ x ∧ x ≤ 12) → xs.drop f.length = r → f.length ≤ xs.length → B ≤ w.heap.size → (∀ ad, a1 = some ad → B ≤ ad.block ∧ ad.block < w.heap.size) →
    Calls Try.prog 80 #[.slice aX xs.length cX, .slice a1 f.length c1] w (PartsP B (partsR r f) w) := by
  obtain ⟨j0, hj, jz0, jz1, jz2⟩ := info_parts info3
  obtain ⟨i0, hi0, iz0, iz1, iz2⟩ := info_parts info22
  intro r
  induction r with
  | nil =>
    intro f a1 c1 w B hX hF hfr hd hl hB ha1
    have he : f.length = xs.length := by rw [List.drop_eq_nil_iff] at hd; omega
    have hE : ((f.length : Int) == (xs.length : Int)) = true := by simp [he]
    have HE := hid he; clear he hd
    go_enter Try.func80, Try.ntmps80
    go_wp2
    go_ret
    have hrow := World.ownsRow_lit (base := w.heap.size) (e := 22) (size := 1) w #[.slice a1 f.length c1] 1 (Nat.le_refl _) (by unfold maxLen; omega) (by simp)
    refine ⟨below_one _, some ⟨w.heap.size, 0, none⟩, 1, _, rfl, hrow, ⟨a1, c1, rfl, hF.below (below_one _) (Nat.le_refl _), fun ad e => ?_⟩, trivial⟩
    obtain ⟨b1, b2⟩ := ha1 ad e
    refine ⟨b1, by simp; omega, fun e2 => ?_⟩
    simp [Value.ownBlock] at e2
    omega
  | cons x r ih =>
    intro f a1 c1 w B hX0 hF0 hfr hd hl hB ha1
    have hlt : f.length < xs.length := by
      rcases Nat.lt_or_ge f.length xs.length with h | h
      · exact h
      · rw [List.drop_eq_nil_iff.2 h] at hd; cases hd
    have hE : ((f.length : Int) == (xs.length : Int)) = false := by simp; omega
    obtain ⟨bb, off, x', rfl, hbs0, hcx0, _, _, hx1, hd1⟩ := hX0.at hlt
    have hd2 : xs.drop f.length = x' :: xs.drop (f.length + 1) := hd1
    rw [hd] at hd2
    obtain ⟨rfl, hr⟩ := List.cons.inj hd2
    have hxb := hx x (by have := List.mem_of_mem_drop (hd ▸ List.mem_cons_self : x ∈ xs.drop f.length); exact this)
    have hrm : ∀ y ∈ r, 0 ≤ y ∧ y ≤ 12 := fun y hy => hx y (by rw [hr] at hy; exact List.mem_of_mem_drop hy)
    have hr3 : r.length ≤ 3 := by have := congrArg List.length hr; rw [List.length_drop] at this; omega
    have HR := hid hr
    have HD := hid hd
    clear hx1 hd1 hd2 hr hd
    go_enter Try.func80, Try.ntmps80
    go_wp2
    go_loopw [5, 6] (fun v5 v6 wr => ∃ (n : Nat) (a : Option Addr) (c : Nat) (vs : List Value), (n : Int) ≤ x + 1 ∧ v6 = .int .i64 (n : Int) ∧ v5 = .slice a (partsN r f n).length c ∧ wr.ownsRow w.heap.size 22 1 (.slice a (partsN r f n).length c) (partsN r f n).length vs ∧ Below w.heap.size w wr ∧ Rw wr B (Value.slice a (partsN r f n).length c).ownBlock vs (partsN r f n)) (fun _ v6 _ => (x + 1).toNat - (intOf v6).toNat)
    case atStart => exact ⟨0, none, 0, [], by omega, rfl, rfl, World.ownsRow_nil _ _ _ _, Below.refl _ _, trivial⟩
    case round =>
      obtain ⟨n, a, c, vs, hn, rfl, rfl, hown, hb, hrw⟩ := hrel
      obtain ⟨wj, rfl⟩ : ∃ wj : World, wj = wr := ⟨_, rfl⟩
      have hcx := Below.keep (hb.mono (Nat.le_refl _)) hcx0
      have hbs : bb < wj.heap.size := Nat.lt_of_lt_of_le hbs0 hb.size
      by_cases hle : (n : Int) ≤ x
      · have hF := hF0.below hb (Nat.le_refl _)
        have hnb : (0 : Int) ≤ (n : Int) ∧ (n : Int) ≤ 12 := by omega
        have hpl := partsN_len (f := f) hrm hr3 n (by omega)
        have hpl2 := partsR_len r (f ++ [(n : Int)]) hrm
        have hp3 : (13 : Nat) ^ r.length ≤ 13 ^ 3 := Nat.pow_le_pow_right (by omega) hr3
        have hA := own_lit0 wj 3 1
        have hb1 := below_one (w := wj) (.cells #[] 3)
        have hcl := (hF.below hb1 (Nat.le_refl _)).cls
        obtain ⟨p, hp⟩ : ∃ p, p = (partsN r f n).length := ⟨_, rfl⟩
        rw [← hp] at hown hrw hpl
        (try rw [← hp])
        have hpb : p ≤ 28561 := by omega
        have Hp := hid hp
        clear hp hpl
        go_wp2_with (first
          | (at_builtin; refine wpList_app rfl (.tmp 25) (.tmp 26) 22 rfl wj.heap.size 3 j0 (.int .i64 0) 1 8 under22 hj jz0 jz1 jz2 rfl (by decide) _ 0 [] rfl hA a1 f.length c1 (f.map (Value.int .i64)) rfl (by simp) hcl (ints_one f) (by unfold maxLen; omega) (by omega) (by simp) ?_
             intro v1 W1 hown1 hg1
             have hb1' := hb1.grown hg1 (by simp) (own_ge hA)
             rw [Nat.zero_add, List.nil_append] at hown1
             have hsz1 := hb1'.size)
          | (at_builtin; refine wpList_append_own _ rfl _ _ 22 rfl wj.heap.size 3 j0 (.int .i64 0) 1 8 under22 hj jz0 jz1 jz2 rfl (by decide) v1 f.length _ rfl (hown1.alloc _) ⟨W1.heap.size, 0, none⟩ 1 1 [.int .i64 (n : Int)] rfl rfl (cell_one_new _ _ _) (ints_oneCell .i64 [(n : Int)]) (by unfold maxLen; omega) (by omega) (by simp; omega) ?_
             intro v2 W2 hrow2 hg2 _
             obtain ⟨hb12, a2, c2, rfl, hi2, hblk⟩ := ext_step hb1' hown1 hrow2 hg2 (by omega) hfr hnb))
        have hf2 : ∀ y ∈ f ++ [(n : Int)], 0 ≤ y ∧ y ≤ 12 := fun y hy => by
          rcases List.mem_append.1 hy with h | h
          · exact hfr y h
          · rw [List.mem_singleton.1 h]; exact hnb
        have hln : (f ++ [(n : Int)]).length = f.length + 1 := by rw [List.length_append]; rfl
        have ihc := ih (f ++ [(n : Int)]) a2 c2 W2 wj.heap.size (hX0.below (hb.trans (hb12.mono hb.size)) (Nat.le_refl _)) hi2 hf2 (by rw [hln]; exact HR.out.symm) (by omega) hb12.size hblk
        rw [hln] at ihc
        obtain ⟨LL, hLL⟩ : ∃ LL, LL = partsR r (f ++ [(n : Int)]) := ⟨_, rfl⟩
        rw [← hLL] at ihc hpl2
        have hnx := partsN_next r f n
        rw [← hLL] at hnx
        have HN := hid hnx; have HLL := hid hLL; clear hLL
        clear hnx
        have hlb : LL.length ≤ 2197 := by omega
        refine ihc.mono ?_
        rintro e W4 ⟨hb4, a4, c4, us, rfl, hown4, hrw4⟩
        have hb24 : Below wj.heap.size wj W4 := hb12.trans (hb4.mono hb12.size)
        have hown5 := own_below2 hown hb24
        have hcl4 := Cls.of_own2 hown4
        have hul := hrw4.len
        have hge5 := own_ge2 hown5
        have hlt5 : ∀ k, (Value.slice a p c).ownBlock = some k → k < wj.heap.size := fun k hk => (hown.lt k hk).2
        have hsz4 := hb24.size
        have hwj := hb.size
        clear ihc hcl hA hb1 hown1 hb1' hsz1 hg1 hi2 hblk hrow2 hg2
        go_wp2_with (at_builtin; refine wpList_appAt rfl (.tmp 23) (.tmp 31) 99 rfl w.heap.size 22 i0 (.slice none 0 0) 1 24 under99 hi0 iz0 iz1 iz2 rfl (by decide) (.slice a p c) p vs rfl hown5 a4 LL.length c4 us rfl (by omega) hcl4 hrw4.one (by unfold maxLen; omega) (by omega) (by omega) ?_; intro v3 W5 hown6 hg6 hat)
        obtain ⟨a6, c6, rfl⟩ := own_slice2 hown6
        have hat2 : (Value.slice a6 (p + LL.length) c6).ownBlock = (Value.slice a p c).ownBlock ∨ ∃ k, (Value.slice a6 (p + LL.length) c6).ownBlock = some k ∧ W4.heap.size ≤ k := by
          rcases hat with h | h
          · exact .inl h
          · exact .inr ⟨_, h, Nat.le_refl _⟩
        have hrw1 : Rw W5 B (Value.slice a6 (p + LL.length) c6).ownBlock vs (partsN r f n) :=
          Rw.map (fun x ks h => (h.gro (Below.gr' hb24) (fun k hk => by cases hk) (.inl rfl)).gro hg6 (fun k hk => hk) hat2) hrw
        have hrw2 : Rw W5 B (Value.slice a6 (p + LL.length) c6).ownBlock us LL := by
          refine Rw.map (fun x ks h => ?_) hrw4
          obtain ⟨q1, q2, q3, q4, q5⟩ := h
          have h' : Ls W4 B (Value.slice a p c).ownBlock x ks := ⟨q1, q2, q3, q4, fun ad e => by
            obtain ⟨z1, z2, _⟩ := q5 ad e
            exact ⟨by omega, z2, fun e2 => by have := hlt5 _ e2; omega⟩⟩
          exact h'.gro hg6 (fun k hk => hk) hat2
        have hrw3 := Rw.app hrw2 hrw1
        have hb5 : Below w.heap.size w W5 := (hb.trans (hb24.mono hb.size)).grown hg6 (by omega) hge5
        have hlen2 : (partsN r f (n + 1)).length = p + LL.length := by rw [HN.out, List.length_append, Hp.out]
        have HL := hid hlen2
        rw [← HN.out] at hrw3
        clear hlen2 hrw1 hrw2 hg6 hat hat2 hown5 hown hrw hrw4 hown4 hcl4 hge5 hlt5
        go_roundw
        case rel => exact ⟨n + 1, a6, c6, vs ++ us, by omega, by go_num, by rw [HL.out], by rw [HL.out]; exact hown6, hb5, by rw [HL.out]; exact hrw3⟩
        case measure => simp [intOf]; omega
      · have hnx : n = x.toNat + 1 := by omega
        have HX := hid hnx
        have hxn : x < (n : Int) := by omega
        clear hnx
        have hres : PartsP B (partsR (x :: r) f) w (.returned (.slice a (partsN r f n).length c)) wj := by
          have e : partsR (x :: r) f = partsN r f n := by rw [HX.out]; rfl
          rw [e]
          exact ⟨hb, a, c, vs, rfl, hown, hrw⟩
        have HRS := hid hres
        clear hres hown hrw
        go_wp2
        go_ret
        exact HRS.out
end Go.Proofs.Ytmkmnedojgigoaa
namespace Go.Proofs.Ytmkmnedojgigoaa
open Go.RowKit

theorem under97 : (Try.prog.underlying 97).map (fun d => match d with | .struct fs => (fs[0]?.map (fun f => (f.type, f.offset)), fs[1]?.map (fun f => (f.type, f.offset))) | _ => (none, none)) = some (some (3, 0), some (3, 1)) := by kernel_rfl
theorem bought_f (a b : Int) (W : World) : (Instr.field 97 (.agg #[.int .i64 a, .int .i64 b]) 0).run Try.prog W = .ok (.int .i64 a) W ∧ (Instr.field 97 (.agg #[.int .i64 a, .int .i64 b]) 1).run Try.prog W = .ok (.int .i64 b) W := by
  have h := under97
  rcases hu : Try.prog.underlying 97 with _ | d
  · rw [hu] at h; cases h
  rw [hu] at h
  cases d with
  | struct fs =>
    simp only [Option.map_some, Option.some.injEq, Prod.mk.injEq] at h
    obtain ⟨h0, h1⟩ := h
    rcases g0 : fs[0]? with _ | f0
    · rw [g0] at h0; cases h0
    rcases g1 : fs[1]? with _ | f1
    · rw [g1] at h1; cases h1
    rw [g0] at h0; rw [g1] at h1
    simp only [Option.map_some, Option.some.injEq, Prod.mk.injEq] at h0 h1
    have e0 := run_part3 #[.int .i64 a, .int .i64 b] 0 .i64 a rfl
    have e1 := run_part3 #[.int .i64 a, .int .i64 b] 1 .i64 b rfl
    constructor
    · unfold Instr.field
      simp [go_sem, run_underlying hu, g0, h0.1, h0.2, asAgg]
    · unfold Instr.field
      simp [go_sem, run_underlying hu, g1, h1.1, h1.2, asAgg]
  | _ => simp at h
theorem cut0 (xs : List Int) : cutS (spL xs 0 0) = ps0 xs := by unfold cutS spL ps0; simp

set_option maxRecDepth 100000 in
set_option maxHeartbeats 1000000 in
theorem rMost_29_bad (r : Int) (an ac : Option Addr) (cn cc : Nat) (N C : List Int) (a : Option Addr) (ca : Nat) (xs : List Int) (w : World) (hN : Ints w an N) (hC : Ints w ac C) (hv : validB r N C = false) :
    Calls Try.prog 29 #[.agg #[.int .i64 r, .slice an N.length cn, .slice ac C.length cc], .slice a xs.length ca] w fun e w' => e = .returned (.tuple #[.int .i64 0, .int .i64 10]) ∧ Below w.heap.size w w' := by
  have hk : chk r N C = 10 := by simp [chk, hv]
  obtain ⟨W, hW, hb, hs, x0⟩ := boxes1 w #[.int .i64 r, .slice an N.length cn, .slice ac C.length cc] 24
  clear hs
  replace hN := hN.below hb (Nat.le_refl _); replace hC := hC.below hb (Nat.le_refl _)
  have c0 := x0.cell 0 rfl; have c1 := x0.cell 1 rfl; have c2 := x0.cell 2 rfl
  go_enter Try.func29, Try.ntmps29
  go_wp2_with fail
  refine (refCheck_any _ _ _ _ _ _ _ _ hN hC).mono ?_
  rintro e W1 ⟨rfl, hb1⟩
  rw [hk]
  replace hb := hb.trans (hb1.mono hb.size)
  clear c0 c1 c2 hW x0 hb1 hN hC
  go_wp2
  go_ret2
  exact ⟨rfl, hb⟩

set_option maxRecDepth 100000 in
set_option maxHeartbeats 1000000 in
theorem rMost_29_arg (R : Nat) (an ac : Option Addr) (cn cc : Nat) (N C : List Int) (a : Option Addr) (ca : Nat) (xs : List Int) (w : World) (hN : Ints w an N) (hC : Ints w ac C) (hX : Ints w a xs) (hv : Vw R N C) (hl : xs.length ≤ 40) (ho : okP C xs = false) :
    Calls Try.prog 29 #[.agg #[.int .i64 (R : Int), .slice an N.length cn, .slice ac C.length cc], .slice a xs.length ca] w fun e w' => e = .returned (.tuple #[.int .i64 0, .int .i64 1]) ∧ Below w.heap.size w w' := by
  have hk : chk (R : Int) N C = 0 := by simp [chk, hv.valid]
  obtain ⟨W, hW, hb, hs, x0⟩ := boxes1 w #[.int .i64 (R : Int), .slice an N.length cn, .slice ac C.length cc] 24
  clear hs
  replace hN := hN.below hb (Nat.le_refl _); replace hC := hC.below hb (Nat.le_refl _); replace hX := hX.below hb (Nat.le_refl _)
  have c0 := x0.cell 0 rfl; have c1 := x0.cell 1 rfl; have c2 := x0.cell 2 rfl
  go_enter Try.func29, Try.ntmps29
  go_wp2_with fail
  refine (refCheck_any _ _ _ _ _ _ _ _ hN hC).mono ?_
  rintro e W1 ⟨rfl, hb1⟩
  rw [hk]
  clear hW
  replace hC := hC.below hb1 (Nat.le_refl _); replace hX := hX.below hb1 (Nat.le_refl _); (try clear c0 c1 c2); replace x0 := x0.below hb1; have c0 := x0.cell 0 rfl; have c1 := x0.cell 1 rfl; have c2 := x0.cell 2 rfl; replace hb := hb.trans (hb1.mono hb.size); clear hb1
  go_wp2_with fail
  refine (isPurse_any _ _ _ _ _ _ _ _ _ _ _ hC hX hl).mono ?_
  rintro e W2 ⟨rfl, hb1⟩
  rw [ho]
  replace hb := hb.trans (hb1.mono hb.size)
  clear c0 c1 c2 x0 hb1 hC hX
  go_wp2
  go_ret2
  exact ⟨rfl, hb⟩

set_option maxRecDepth 100000 in
set_option maxHeartbeats 1000000 in
theorem rMost_29_ok (R : Nat) (an ac : Option Addr) (cn cc : Nat) (N C : List Int) (a : Option Addr) (ca : Nat) (xs : List Int) (w : World) (hN : Ints w an N) (hC : Ints w ac C) (hX : Ints w a xs) (hv : Vw R N C) (ho : okP C xs = true) :
    Calls Try.prog 29 #[.agg #[.int .i64 (R : Int), .slice an N.length cn, .slice ac C.length cc], .slice a xs.length ca] w fun e w' => e = .returned (.tuple #[.int .i64 (bst btm R N C (ps0 xs) : Nat), .int .i64 0]) ∧ Below w.heap.size w w' := by
  have hk : chk (R : Int) N C = 0 := by simp [chk, hv.valid]
  have r1 := hv.r1
  obtain ⟨o1, o2, o3⟩ := okP_mem ho
  have hx4 : xs.length ≤ 4 := by have := hv.c4; omega
  have hn12 : (spL xs 0 0).cnt ≤ 12 := okP_bag hv ho
  have hN0 := hN; have hC0 := hC; have hX0 := hX
  have al : ∀ W : World, Below w.heap.size w W → Calls Try.prog 77 #[.agg #[.int .i64 (R : Int), .slice an N.length cn, .slice ac C.length cc], .agg #[.int .i64 0, .int .i64 0], .slice a xs.length ca] W fun e w' => e = .returned (.agg #[.int .i64 (bst btm R N C (ps0 xs) : Nat), .int .i64 (bst btf R N C (ps0 xs) : Nat)]) ∧ Below W.heap.size W w' := fun W hb => by
    have := all_rec R an ac cn cc N C hv (mu (spL xs 0 0) + 1) xs 0 0 a ca W (hN0.below hb (Nat.le_refl _)) (hC0.below hb (Nat.le_refl _)) (hX0.below hb (Nat.le_refl _)) ho (by omega) (by omega) (by omega)
    rw [cut0] at this
    exact this
  obtain ⟨Mx, hMx⟩ : ∃ Mx, Mx = bst btm R N C (ps0 xs) := ⟨_, rfl⟩
  obtain ⟨Lx, hLx⟩ : ∃ Lx, Lx = bst btf R N C (ps0 xs) := ⟨_, rfl⟩
  rw [← hMx, ← hLx] at al
  (try rw [← hMx])
  (try rw [← hLx])
  clear hMx hLx o1 o2 o3 hn12
  have hF := fun W => (bought_f (Mx : Int) (Lx : Int) W).1
  obtain ⟨W, hW, hb, hs, x0⟩ := boxes1 w #[.int .i64 (R : Int), .slice an N.length cn, .slice ac C.length cc] 24
  clear hs
  replace hN := hN.below hb (Nat.le_refl _); replace hC := hC.below hb (Nat.le_refl _); replace hX := hX.below hb (Nat.le_refl _)
  have c0 := x0.cell 0 rfl; have c1 := x0.cell 1 rfl; have c2 := x0.cell 2 rfl
  go_enter Try.func29, Try.ntmps29
  go_wp2_with fail
  refine (refCheck_any _ _ _ _ _ _ _ _ hN hC).mono ?_
  rintro e W1 ⟨rfl, hb1⟩
  rw [hk]
  clear hW
  replace hC := hC.below hb1 (Nat.le_refl _); replace hX := hX.below hb1 (Nat.le_refl _); (try clear c0 c1 c2); replace x0 := x0.below hb1; have c0 := x0.cell 0 rfl; have c1 := x0.cell 1 rfl; have c2 := x0.cell 2 rfl; replace hb := hb.trans (hb1.mono hb.size); clear hb1
  go_wp2_with fail
  refine (isPurse_any _ _ _ _ _ _ _ _ _ _ _ hC hX (by omega)).mono ?_
  rintro e W2 ⟨rfl, hb1⟩
  rw [ho]
  (try clear c0 c1 c2); replace x0 := x0.below hb1; have c0 := x0.cell 0 rfl; have c1 := x0.cell 1 rfl; have c2 := x0.cell 2 rfl; replace hb := hb.trans (hb1.mono hb.size); clear hb1
  clear hC hX
  go_wp2_with fail
  refine (al _ hb).mono ?_
  rintro e W3 ⟨rfl, hb1⟩
  replace hb := hb.trans (hb1.mono hb.size)
  clear c0 c1 c2 x0 hb1 al
  go_wp2
  go_ret2
  exact ⟨rfl, hb⟩

set_option maxRecDepth 100000 in
set_option maxHeartbeats 1000000 in
theorem rMost_31_bad (r : Int) (an ac : Option Addr) (cn cc : Nat) (N C : List Int) (a : Option Addr) (ca : Nat) (xs : List Int) (w : World) (hN : Ints w an N) (hC : Ints w ac C) (hv : validB r N C = false) :
    Calls Try.prog 31 #[.agg #[.int .i64 r, .slice an N.length cn, .slice ac C.length cc], .slice a xs.length ca] w fun e w' => e = .returned (.tuple #[.int .i64 0, .int .i64 10]) ∧ Below w.heap.size w w' := by
  have hk : chk r N C = 10 := by simp [chk, hv]
  obtain ⟨W, hW, hb, hs, x0⟩ := boxes1 w #[.int .i64 r, .slice an N.length cn, .slice ac C.length cc] 24
  clear hs
  replace hN := hN.below hb (Nat.le_refl _); replace hC := hC.below hb (Nat.le_refl _)
  have c0 := x0.cell 0 rfl; have c1 := x0.cell 1 rfl; have c2 := x0.cell 2 rfl
  go_enter Try.func31, Try.ntmps31
  go_wp2_with fail
  refine (refCheck_any _ _ _ _ _ _ _ _ hN hC).mono ?_
  rintro e W1 ⟨rfl, hb1⟩
  rw [hk]
  replace hb := hb.trans (hb1.mono hb.size)
  clear c0 c1 c2 hW x0 hb1 hN hC
  go_wp2
  go_ret2
  exact ⟨rfl, hb⟩

set_option maxRecDepth 100000 in
set_option maxHeartbeats 1000000 in
theorem rMost_31_arg (R : Nat) (an ac : Option Addr) (cn cc : Nat) (N C : List Int) (a : Option Addr) (ca : Nat) (xs : List Int) (w : World) (hN : Ints w an N) (hC : Ints w ac C) (hX : Ints w a xs) (hv : Vw R N C) (hl : xs.length ≤ 40) (ho : okP C xs = false) :
    Calls Try.prog 31 #[.agg #[.int .i64 (R : Int), .slice an N.length cn, .slice ac C.length cc], .slice a xs.length ca] w fun e w' => e = .returned (.tuple #[.int .i64 0, .int .i64 1]) ∧ Below w.heap.size w w' := by
  have hk : chk (R : Int) N C = 0 := by simp [chk, hv.valid]
  obtain ⟨W, hW, hb, hs, x0⟩ := boxes1 w #[.int .i64 (R : Int), .slice an N.length cn, .slice ac C.length cc] 24
  clear hs
  replace hN := hN.below hb (Nat.le_refl _); replace hC := hC.below hb (Nat.le_refl _); replace hX := hX.below hb (Nat.le_refl _)
  have c0 := x0.cell 0 rfl; have c1 := x0.cell 1 rfl; have c2 := x0.cell 2 rfl
  go_enter Try.func31, Try.ntmps31
  go_wp2_with fail
  refine (refCheck_any _ _ _ _ _ _ _ _ hN hC).mono ?_
  rintro e W1 ⟨rfl, hb1⟩
  rw [hk]
  clear hW
  replace hC := hC.below hb1 (Nat.le_refl _); replace hX := hX.below hb1 (Nat.le_refl _); (try clear c0 c1 c2); replace x0 := x0.below hb1; have c0 := x0.cell 0 rfl; have c1 := x0.cell 1 rfl; have c2 := x0.cell 2 rfl; replace hb := hb.trans (hb1.mono hb.size); clear hb1
  go_wp2_with fail
  refine (isPurse_any _ _ _ _ _ _ _ _ _ _ _ hC hX hl).mono ?_
  rintro e W2 ⟨rfl, hb1⟩
  rw [ho]
  replace hb := hb.trans (hb1.mono hb.size)
  clear c0 c1 c2 x0 hb1 hC hX
  go_wp2
  go_ret2
  exact ⟨rfl, hb⟩

set_option maxRecDepth 100000 in
set_option maxHeartbeats 1000000 in
theorem rMost_31_ok (R : Nat) (an ac : Option Addr) (cn cc : Nat) (N C : List Int) (a : Option Addr) (ca : Nat) (xs : List Int) (w : World) (hN : Ints w an N) (hC : Ints w ac C) (hX : Ints w a xs) (hv : Vw R N C) (ho : okP C xs = true) :
    Calls Try.prog 31 #[.agg #[.int .i64 (R : Int), .slice an N.length cn, .slice ac C.length cc], .slice a xs.length ca] w fun e w' => e = .returned (.tuple #[.int .i64 (bst btf R N C (ps0 xs) : Nat), .int .i64 0]) ∧ Below w.heap.size w w' := by
  have hk : chk (R : Int) N C = 0 := by simp [chk, hv.valid]
  have r1 := hv.r1
  obtain ⟨o1, o2, o3⟩ := okP_mem ho
  have hx4 : xs.length ≤ 4 := by have := hv.c4; omega
  have hn12 : (spL xs 0 0).cnt ≤ 12 := okP_bag hv ho
  have hN0 := hN; have hC0 := hC; have hX0 := hX
  have al : ∀ W : World, Below w.heap.size w W → Calls Try.prog 77 #[.agg #[.int .i64 (R : Int), .slice an N.length cn, .slice ac C.length cc], .agg #[.int .i64 0, .int .i64 0], .slice a xs.length ca] W fun e w' => e = .returned (.agg #[.int .i64 (bst btm R N C (ps0 xs) : Nat), .int .i64 (bst btf R N C (ps0 xs) : Nat)]) ∧ Below W.heap.size W w' := fun W hb => by
    have := all_rec R an ac cn cc N C hv (mu (spL xs 0 0) + 1) xs 0 0 a ca W (hN0.below hb (Nat.le_refl _)) (hC0.below hb (Nat.le_refl _)) (hX0.below hb (Nat.le_refl _)) ho (by omega) (by omega) (by omega)
    rw [cut0] at this
    exact this
  obtain ⟨Mx, hMx⟩ : ∃ Mx, Mx = bst btm R N C (ps0 xs) := ⟨_, rfl⟩
  obtain ⟨Lx, hLx⟩ : ∃ Lx, Lx = bst btf R N C (ps0 xs) := ⟨_, rfl⟩
  rw [← hMx, ← hLx] at al
  (try rw [← hMx])
  (try rw [← hLx])
  clear hMx hLx o1 o2 o3 hn12
  have hF := fun W => (bought_f (Mx : Int) (Lx : Int) W).2
  obtain ⟨W, hW, hb, hs, x0⟩ := boxes1 w #[.int .i64 (R : Int), .slice an N.length cn, .slice ac C.length cc] 24
  clear hs
  replace hN := hN.below hb (Nat.le_refl _); replace hC := hC.below hb (Nat.le_refl _); replace hX := hX.below hb (Nat.le_refl _)
  have c0 := x0.cell 0 rfl; have c1 := x0.cell 1 rfl; have c2 := x0.cell 2 rfl
  go_enter Try.func31, Try.ntmps31
  go_wp2_with fail
  refine (refCheck_any _ _ _ _ _ _ _ _ hN hC).mono ?_
  rintro e W1 ⟨rfl, hb1⟩
  rw [hk]
  clear hW
  replace hC := hC.below hb1 (Nat.le_refl _); replace hX := hX.below hb1 (Nat.le_refl _); (try clear c0 c1 c2); replace x0 := x0.below hb1; have c0 := x0.cell 0 rfl; have c1 := x0.cell 1 rfl; have c2 := x0.cell 2 rfl; replace hb := hb.trans (hb1.mono hb.size); clear hb1
  go_wp2_with fail
  refine (isPurse_any _ _ _ _ _ _ _ _ _ _ _ hC hX (by omega)).mono ?_
  rintro e W2 ⟨rfl, hb1⟩
  rw [ho]
  (try clear c0 c1 c2); replace x0 := x0.below hb1; have c0 := x0.cell 0 rfl; have c1 := x0.cell 1 rfl; have c2 := x0.cell 2 rfl; replace hb := hb.trans (hb1.mono hb.size); clear hb1
  clear hC hX
  go_wp2_with fail
  refine (al _ hb).mono ?_
  rintro e W3 ⟨rfl, hb1⟩
  replace hb := hb.trans (hb1.mono hb.size)
  clear c0 c1 c2 x0 hb1 al
  go_wp2
  go_ret2
  exact ⟨rfl, hb⟩

end Go.Proofs.Ytmkmnedojgigoaa
namespace Go.Proofs.Ytmkmnedojgigoaa
open Go.RowKit

theorem wst_att (A M : Nat) (f g : Bg → Nat) : ∀ (L : List Bg) (l : Nat), L.foldl (wst1 A M f g) l = l ∨ ∃ q ∈ L, g q = M ∧ L.foldl (wst1 A M f g) l = A - f q
  | [], _ => .inl rfl
  | p :: L, l => by
    rw [List.foldl_cons]
    rcases wst_att A M f g L (wst1 A M f g l p) with h | ⟨q, hq, h1, h2⟩
    · rw [h]
      unfold wst1
      by_cases hc : l < A - f p ∧ g p = M
      · rw [if_pos hc]; exact .inr ⟨p, by simp, hc.2, rfl⟩
      · rw [if_neg hc]; exact .inl rfl
    · exact .inr ⟨q, List.mem_cons_of_mem _ hq, h1, h2⟩
theorem wst_sub {A M : Nat} {f g : Bg → Nat} {L1 L2 : List Bg} (h : ∀ q ∈ L1, q ∈ L2) : L1.foldl (wst1 A M f g) 0 ≤ L2.foldl (wst1 A M f g) 0 := by
  rcases wst_att A M f g L1 0 with h1 | ⟨q, hq, h1, h2⟩
  · rw [h1]; exact Nat.zero_le _
  · rw [h2]; exact wst_has A M f g q h1 L2 0 (h q hq)
theorem partsR_mem : ∀ (r f ys : List Int), (∀ x ∈ r, 0 ≤ x) → ys ∈ partsR r f → ∃ zs, ys = f ++ zs ∧ zs.length = r.length ∧ zs.sum ≤ r.sum ∧ ∀ i, 0 ≤ zs.getD i 0 ∧ zs.getD i 0 ≤ r.getD i 0
  | [], f, ys, _, h => by
    have e : ys = f := by simpa [partsR] using h
    exact ⟨[], by simp [e], rfl, Int.le_refl _, fun i => by simp⟩
  | x :: r, f, ys, hr, h => by
    simp only [partsR, List.mem_flatMap, List.mem_range] at h
    obtain ⟨n, hn, h⟩ := h
    have hx := hr x (by simp)
    obtain ⟨zs, rfl, h1, h2, h3⟩ := partsR_mem r _ ys (fun y hy => hr y (by simp [hy])) h
    refine ⟨(n : Int) :: zs, by simp, by simp [h1], by simp only [List.sum_cons]; omega, fun i => ?_⟩
    match i with
    | 0 => simp [List.getD]; omega
    | i + 1 => have := h3 i; simpa [List.getD] using this
theorem partsR_has : ∀ (r f zs : List Int), zs.length = r.length → (∀ i, i < r.length → 0 ≤ zs.getD i 0 ∧ zs.getD i 0 ≤ r.getD i 0) → f ++ zs ∈ partsR r f
  | [], f, zs, h, _ => by
    have e : zs = [] := List.length_eq_zero_iff.1 h
    simp [partsR, e]
  | x :: r, f, [], h, _ => by simp at h
  | x :: r, f, z :: zs, h, hz => by
    simp only [partsR, List.mem_flatMap, List.mem_range]
    have h0 := hz 0 (by simp)
    simp only [List.getD_cons_zero] at h0
    refine ⟨z.toNat, by omega, ?_⟩
    have := partsR_has r (f ++ [(z.toNat : Int)]) zs (by simpa using h) (fun i hi => by have := hz (i + 1) (by simpa using hi); simpa [List.getD] using this)
    rw [List.append_assoc] at this
    have ez : (z.toNat : Int) = z := by omega
    rw [ez] at this ⊢
    exact this
theorem bag_getD (xs : List Int) (k : Nat) : bgN xs k = (xs.getD k 0).toNat := rfl
theorem parts_okP {C xs ys : List Int} (ho : okP C xs = true) (h : ys ∈ partsR xs []) : okP C ys = true ∧ ∀ k, bgN ys k ≤ bgN xs k := by
  obtain ⟨o1, o2, o3⟩ := okP_mem ho
  obtain ⟨zs, rfl, h1, h2, h3⟩ := partsR_mem xs [] ys (fun x hx => (o2 x hx).1) h
  refine ⟨?_, fun k => by have := h3 k; rw [bag_getD, bag_getD]; omega⟩
  unfold okP
  rw [Bool.and_eq_true, Bool.and_eq_true, decide_eq_true_eq, decide_eq_true_eq, List.all_eq_true]
  refine ⟨by omega, fun y hy => ?_, by omega⟩
  rw [inR_iff]
  obtain ⟨i, hi, rfl⟩ := List.getElem_of_mem hy
  have := h3 i
  have e1 : ys.getD i 0 = ys[i] := by simp [List.getD, hi]
  have e2 : xs.getD i 0 = xs[i] := by simp [List.getD, show i < xs.length by omega]
  have := o2 xs[i] (List.getElem_mem _)
  omega
/-- What the reference's Wasted comes to. -/
def rwst (R : Nat) (N C xs : List Int) (l : Nat) (ys : List Int) : Nat := wst1 (bws C (bagX xs) C.length) (bst btm R N C (spB (bagX xs))) (fun q => bws C q C.length) (fun q => bst btm R N C (spB q)) l (bagX ys)
theorem rwst_all {R : Nat} {N C xs : List Int} (hv : Vw R N C) (ho : okP C xs = true) : (partsR xs []).foldl (rwst R N C xs) 0 = wasteV R N C xs := by
  have e : (partsR xs []).foldl (rwst R N C xs) 0 = ((partsR xs []).map bagX).foldl (wst1 (bws C (bagX xs) C.length) (bst btm R N C (spB (bagX xs))) (fun q => bws C q C.length) (fun q => bst btm R N C (spB q))) 0 := by
    rw [List.foldl_map]; rfl
  rw [e]
  obtain ⟨o1, o2, o3⟩ := okP_mem ho
  have c4 := hv.c4
  apply Nat.le_antisymm
  · refine wst_sub fun q hq => ?_
    obtain ⟨ys, hy, rfl⟩ := List.mem_map.1 hq
    obtain ⟨_, hb⟩ := parts_okP ho hy
    exact (mem_prt _ _).2 ⟨hb 0, hb 1, hb 2, hb 3⟩
  · refine wst_sub fun q hq => ?_
    obtain ⟨h0, h1, h2, h3⟩ := (mem_prt _ _).1 hq
    have hg := get_le h0 h1 h2 h3
    have hg2 : ∀ k, k ≤ 3 → q.get k ≤ bgN xs k := fun k hk => by
      have := hg k
      match k, hk with
      | 0, _ => exact this
      | 1, _ => exact this
      | 2, _ => exact this
      | 3, _ => exact this
    have hz : ∀ k, xs.length ≤ k → k ≤ 3 → q.get k = 0 := fun k hk h3 => by
      have := hg2 k h3
      have e : xs.getD k 0 = 0 := by simp [List.getD, List.getElem?_eq_none hk]
      rw [bag_getD, e] at this
      simpa using this
    have hgd : ∀ k, ((List.range xs.length).map fun k => (q.get k : Int)).getD k 0 = if k < xs.length then (q.get k : Int) else 0 := fun k => by
      by_cases hk : k < xs.length
      · rw [if_pos hk]; simp [List.getD, hk]
      · rw [if_neg hk]; simp [List.getD, hk]
    refine List.mem_map.2 ⟨(List.range xs.length).map fun k => (q.get k : Int), ?_, ?_⟩
    · have := partsR_has xs [] ((List.range xs.length).map fun k => (q.get k : Int)) (by simp) (fun i hi => by
        rw [hgd, if_pos hi]
        have := hg2 i (by omega)
        have h0 := (o2 xs[i] (List.getElem_mem hi)).1
        rw [bag_getD] at this
        have e2 : xs.getD i 0 = xs[i] := by simp [List.getD, hi]
        rw [e2] at this ⊢
        omega)
      simpa using this
    · have hk : ∀ k, k ≤ 3 → bgN ((List.range xs.length).map fun k => (q.get k : Int)) k = q.get k := fun k h3 => by
        rw [bag_getD, hgd]
        by_cases hk : k < xs.length
        · rw [if_pos hk]; simp
        · rw [if_neg hk, hz k (by omega) h3]; rfl
      have a0 := hk 0 (by omega); have a1 := hk 1 (by omega); have a2 := hk 2 (by omega); have a3 := hk 3 (by omega)
      unfold bagX
      rw [a0, a1, a2, a3]
      rfl
end Go.Proofs.Ytmkmnedojgigoaa
