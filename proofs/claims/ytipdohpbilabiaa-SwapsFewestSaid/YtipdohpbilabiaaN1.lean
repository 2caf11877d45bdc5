import Derived.Test.YtipdohpbilabiaaVB
/-! Rows of lists that are the call's own; copies of lists. -/
namespace Go.Proofs.Ytipdohpbilabiaa
set_option linter.unusedSimpArgs false
set_option linter.unusedVariables false
open Go.RowKit

theorem under22 : Try.prog.underlying 22 = some (.slice 23) := by kernel_rfl
theorem info23 : (Try.prog.info? 23).map (fun i => (i.zero, i.size, i.bytes)) = some (some (.slice none 0 0), 1, 24) := by kernel_rfl

/-- A row of numbers of the call's own, in a block from B up to T, which is not that of another row. -/
def Ls (w : World) (own : Option Nat) (B T : Nat) (x : Value) (ks : List Int) : Prop :=
  w.ownsRow B 3 1 x ks.length (ks.map (Value.int .i64)) ∧ ∃ (a : Option Addr) (c : Nat), x = .slice a ks.length c ∧ Ints w a ks ∧ ∀ ad, a = some ad → B ≤ ad.block ∧ ad.block < T ∧ ad.block < w.heap.size ∧ own ≠ some ad.block
theorem Ls.gro {w w' : World} {own own' r : Option Nat} {B T : Nat} {x : Value} {ks : List Int} (h : Ls w own B T x ks) (hg : w.grownBy w' r) (hr : ∀ k, r = some k → own = some k) (ho : own' = own ∨ ∃ k, own' = some k ∧ w.heap.size ≤ k) : Ls w' own' B T x ks := by
  obtain ⟨h0, a, c, rfl, h2, h3⟩ := h
  refine ⟨own_keep h0 hg (fun k hk e => ?_), a, c, rfl, h2.gro hg (fun ad e hh => (h3 ad e).2.2.2 (hr _ hh)), fun ad e => ?_⟩
  · cases a with
    | none => simp [Value.ownBlock] at hk
    | some ad =>
      have hk' : ad.block = k := by simpa [Value.ownBlock] using hk
      exact (h3 ad rfl).2.2.2 (by rw [hk']; exact hr _ e)
  · obtain ⟨b1, b2, b3, b4⟩ := h3 ad e
    refine ⟨b1, b2, Nat.lt_of_lt_of_le b3 hg.size, fun e2 => ?_⟩
    rcases ho with rfl | ⟨k, rfl, hk⟩
    · exact b4 e2
    · cases e2; omega
/-- Rows of numbers, one behind the other. -/
def Rc (w : World) (own : Option Nat) : Nat → Nat → List Value → List (List Int) → Prop
  | B, T, [], [] => B ≤ T
  | B, T, x :: vs, ks :: LL => ∃ M, B ≤ M ∧ Ls w own B M x ks ∧ Rc w own M T vs LL
  | _, _, [], _ :: _ => False
  | _, _, _ :: _, [] => False
theorem Rc.map {w w' : World} {own own' : Option Nat} (hf : ∀ B T x ks, Ls w own B T x ks → Ls w' own' B T x ks) : ∀ {vs : List Value} {LL : List (List Int)} {B T : Nat}, Rc w own B T vs LL → Rc w' own' B T vs LL
  | [], [], _, _, h => h
  | _ :: _, _ :: _, _, _, ⟨M, hm, h1, h2⟩ => ⟨M, hm, hf _ _ _ _ h1, Rc.map hf h2⟩
  | [], _ :: _, _, _, h => h.elim
  | _ :: _, [], _, _, h => h.elim
theorem Rc.gro {w w' : World} {own own' r : Option Nat} {B T : Nat} {vs : List Value} {LL : List (List Int)} (h : Rc w own B T vs LL) (hg : w.grownBy w' r) (hr : ∀ k, r = some k → own = some k) (ho : own' = own ∨ ∃ k, own' = some k ∧ w.heap.size ≤ k) : Rc w' own' B T vs LL :=
  Rc.map (fun _ _ _ _ h => h.gro hg hr ho) h
theorem Rc.snoc {w : World} {own : Option Nat} {x : Value} {ks : List Int} {T T' : Nat} (hT : T ≤ T') (k : Ls w own T T' x ks) : ∀ {vs : List Value} {LL : List (List Int)} {B : Nat}, Rc w own B T vs LL → Rc w own B T' (vs ++ [x]) (LL ++ [ks])
  | [], [], B, h => ⟨T', Nat.le_trans h hT, by
      obtain ⟨h0, a, c, h1, h2, h3⟩ := k
      have hle : B ≤ T := h
      refine ⟨?_, a, c, h1, h2, fun ad e => ?_⟩
      · exact own_base h0 hle
      · obtain ⟨b1, b2, b3, b4⟩ := h3 ad e
        exact ⟨Nat.le_trans hle b1, b2, b3, b4⟩, Nat.le_refl _⟩
  | _ :: _, _ :: _, _, ⟨M, hm, h1, h2⟩ => ⟨M, hm, h1, Rc.snoc hT k h2⟩
  | [], _ :: _, _, h => h.elim
  | _ :: _, [], _, h => h.elim
theorem Rc.le {w : World} {own : Option Nat} : ∀ {vs : List Value} {LL : List (List Int)} {B T : Nat}, Rc w own B T vs LL → B ≤ T
  | [], [], _, _, h => h
  | _ :: _, _ :: _, _, _, ⟨_, hm, _, h2⟩ => Nat.le_trans hm (Rc.le h2)
  | [], _ :: _, _, _, h => h.elim
  | _ :: _, [], _, _, h => h.elim
theorem Rc.up {w : World} {own : Option Nat} {T T' : Nat} (hT : T ≤ T') : ∀ {vs : List Value} {LL : List (List Int)} {B : Nat}, Rc w own B T vs LL → Rc w own B T' vs LL
  | [], [], _, h => Nat.le_trans h hT
  | _ :: _, _ :: _, _, ⟨M, hm, h1, h2⟩ => ⟨M, hm, h1, Rc.up hT h2⟩
  | [], _ :: _, _, h => h.elim
  | _ :: _, [], _, h => h.elim
theorem Rc.len {w : World} {own : Option Nat} : ∀ {vs : List Value} {LL : List (List Int)} {B T : Nat}, Rc w own B T vs LL → vs.length = LL.length
  | [], [], _, _, _ => rfl
  | _ :: _, _ :: _, _, _, ⟨_, _, _, h2⟩ => by simp [Rc.len h2]
  | [], _ :: _, _, _, h => h.elim
  | _ :: _, [], _, _, h => h.elim
theorem Rc.at {w : World} {own : Option Nat} : ∀ {vs : List Value} {LL : List (List Int)} {B T : Nat}, Rc w own B T vs LL → ∀ (i : Nat) (ks : List Int), LL[i]? = some ks → ∃ x B' T', vs[i]? = some x ∧ Ls w own B' T' x ks ∧ B ≤ B'
  | [], [], _, _, _, i, ks, hi => by simp at hi
  | x :: _, k :: _, B, T, ⟨M, hm, h1, h2⟩, 0, ks, hi => by
    simp at hi; subst hi; exact ⟨x, B, M, rfl, h1, Nat.le_refl _⟩
  | _ :: _, _ :: _, _, _, ⟨M, hm, h1, h2⟩, i + 1, ks, hi => by
    obtain ⟨x, B', T', hx, hl, hb⟩ := Rc.at h2 i ks (by simpa using hi)
    exact ⟨x, B', T', by simpa using hx, hl, Nat.le_trans hm hb⟩
  | [], _ :: _, _, _, h, _, _, _ => h.elim
  | _ :: _, [], _, _, h, _, _, _ => h.elim
theorem Rc.one {w : World} {own : Option Nat} : ∀ {vs : List Value} {LL : List (List Int)} {B T : Nat}, Rc w own B T vs LL → ∀ u ∈ vs, u.oneCell' = true
  | [], [], _, _, _, u, hu => by simp at hu
  | x :: _, k :: _, _, _, ⟨M, hm, h1, h2⟩, u, hu => by
    rcases List.mem_cons.1 hu with rfl | hu
    · obtain ⟨_, a, c, rfl, -⟩ := h1; rfl
    · exact Rc.one h2 u hu
  | [], _ :: _, _, _, h, _, _ => h.elim
  | _ :: _, [], _, _, h, _, _ => h.elim
/-- A row of rows reads as lists. -/
theorem Rc.lss {w : World} {own : Option Nat} {base B T : Nat} {a : Option Addr} {c : Nat} {vs : List Value} {LL : List (List Int)} (h : Rc w own B T vs LL) (ho : w.ownsRow base 23 1 (.slice a LL.length c) LL.length vs) (hl : LL.length ≤ 9223372036854775807) : Lss w a LL := by
  refine ⟨hl, fun i ks hi => ?_⟩
  obtain ⟨x, B', T', hx, ⟨_, a', c', rfl, h2, _⟩, _⟩ := h.at i ks hi
  have hlt : i < LL.length := by
    rcases Nat.lt_or_ge i LL.length with h | h
    · exact h
    · rw [List.getElem?_eq_none h] at hi; cases hi
  obtain ⟨g, cap, e⟩ := Go.Joins.ownsRow_form ho (by omega)
  simp only [Value.slice.injEq] at e
  obtain ⟨rfl, _, rfl⟩ := e
  have hc := ho.cellAt i (by have := h.len; omega)
  rw [hx] at hc
  exact ⟨g, 0, a', c', rfl, (ho.lt g rfl).2, by rw [Nat.zero_add]; exact hc, h2⟩

/-- What a copy of lists is. -/
def ClP (LL : List (List Int)) (w : World) (e : Ending) (w' : World) : Prop :=
  Below w.heap.size w w' ∧ ∃ (a : Option Addr) (c : Nat) (vs : List Value), e = .returned (.slice a LL.length c) ∧ w'.ownsRow w.heap.size 23 1 (.slice a LL.length c) LL.length vs ∧ Rc w' (Value.slice a LL.length c).ownBlock w.heap.size w'.heap.size vs LL

/-- The numbers of a list that was read are numbers of a word. -/
theorem Ints.rng {w : World} {a : Option Addr} {xs : List Int} (h : Ints w a xs) : ∀ x ∈ xs, -9223372036854775808 ≤ x ∧ x ≤ 9223372036854775807 := fun x hx => by
  obtain ⟨i, hi, rfl⟩ := mem_getD 0 hx
  obtain ⟨_, _, y, _, _, _, h1, h2, hg, _⟩ := h.at hi
  have e : xs.getD i 0 = y := by rw [List.getD_eq_getElem?_getD, hg.out]; rfl
  rw [e]
  exact ⟨h1, h2⟩
theorem cl_step {wo W1 : World} {v1 : Value} {L : List Int} {o0 : Option Nat} (hown1 : W1.ownsRow wo.heap.size 3 1 v1 L.length (L.map (Value.int .i64))) (hL : L.length ≤ 9223372036854775807) (hr : ∀ x ∈ L, -9223372036854775808 ≤ x ∧ x ≤ 9223372036854775807)
    (ho : ∀ k, o0 = some k → k < wo.heap.size) : ∃ (a1 : Option Addr) (c1 : Nat), v1 = .slice a1 L.length c1 ∧ Ls W1 o0 wo.heap.size W1.heap.size (.slice a1 L.length c1) L := by
  obtain ⟨a1, c1, rfl⟩ := own_slice2 hown1
  have e : ∃ a2 c2, (Value.slice a1 L.length c1) = .slice a2 L.length c2 ∧ Ints W1 a2 L := by
    obtain ⟨a2, c2, e, h⟩ := Ints.of_own hown1 hL hr
    exact ⟨a2, c2, e, h⟩
  obtain ⟨a2, c2, e, hI⟩ := e
  cases e
  refine ⟨a1, c1, rfl, hown1, a1, c1, rfl, hI, fun ad e => ?_⟩
  subst e
  have h1 := own_new2 hown1 ad rfl
  have h2 := (hown1.lt ad.block rfl).2
  exact ⟨h1, h2, h2, fun e2 => by have := ho _ e2; omega⟩

set_option maxRecDepth 100000 in
set_option maxHeartbeats 4000000 in
theorem CloneLists_any (a : Option Addr) (c : Nat) (LL : List (List Int)) (w : World) (hL : Lss w a LL) (h1 : LL.length ≤ 1000) (h2 : ∀ l ∈ LL, l.length ≤ 1000) : Calls Try.prog 16 #[.slice a LL.length c] w (ClP LL w) := by
  obtain ⟨j0, hj, jz0, jz1, jz2⟩ := info_parts info3i
  obtain ⟨i0, hi0, iz0, iz1, iz2⟩ := info_parts info23
  have H2 := hid h2
  clear h2
  obtain ⟨n, hn⟩ : ∃ n, n = LL.length := ⟨_, rfl⟩
  have HN := hid hn
  have hnI : (n : Int) ≤ 1000 := by omega
  have hn1 : n ≤ 1000 := by omega
  unfold ClP
  rw [← hn]
  clear hn h1
  go_enter Try.func16, Try.ntmps16
  go_wp2
  go_loopw [3, 4] (fun v3 v4 wr => ∃ (k : Nat) (b : Option Addr) (d : Nat) (vs : List Value), k ≤ n ∧ v4 = .int .i64 (k : Int) ∧ v3 = .slice b k d ∧ wr.ownsRow w.heap.size 23 1 (.slice b k d) k vs ∧ Below w.heap.size w wr ∧ Rc wr (Value.slice b k d).ownBlock w.heap.size wr.heap.size vs (LL.take k)) (fun _ v4 _ => n - (intOf v4).toNat)
  case atStart => exact ⟨0, none, 0, [], Nat.zero_le _, rfl, rfl, World.ownsRow_nil _ _ _ _, Below.refl _ _, Nat.le_refl _⟩
  case round =>
    obtain ⟨k, b, d, vs, hk, rfl, rfl, hown, hb, hrc⟩ := hrel
    obtain ⟨wo, rfl⟩ : ∃ wo : World, wo = wr := ⟨_, rfl⟩
    by_cases hlt : k < n
    · obtain ⟨bl, off, a', c', rfl, hbl, hc, hI⟩ := (hL.below hb (Nat.le_refl _)).at (k := k) (by rw [← HN.out]; exact hlt)
      have htk : LL.take (k + 1) = LL.take k ++ [LL.getD k []] := by
        rw [List.take_add_one, List.getD_eq_getElem?_getD, List.getElem?_eq_getElem (show k < LL.length by have := HN.out; omega)]; rfl
      have hl2 := H2.out (LL.getD k []) (getD_mem' LL [] (by rw [← HN.out]; exact hlt))
      obtain ⟨L, hLd⟩ : ∃ L, L = LL.getD k [] := ⟨_, rfl⟩
      rw [← hLd] at hc hI htk hl2
      have HTK := hid htk
      clear htk hLd
      have hkI : (k : Int) < n := by omega
      have hk0 : (0 : Int) ≤ (k : Int) := by omega
      have hwo := hb.size
      have hA := own_lit0 wo 3 1
      have hb1 := below_one (w := wo) (.cells #[] 3)
      have hc1 := Below.keep hb1 hc
      have hcl := (hI.below hb1 (Nat.le_refl _)).cls
      have hrg := hI.rng
      have hlt0 : ∀ q, (Value.slice b k d).ownBlock = some q → q < wo.heap.size := fun q hq => (hown.lt q hq).2
      have hge0 := own_ge2 hown
      go_wp2_with (first
        | (at_builtin; refine wpList_app rfl (.tmp 12) (.tmp 16) 23 rfl wo.heap.size 3 j0 (.int .i64 0) 1 8 under23 hj jz0 jz1 jz2 rfl (by decide) _ 0 [] rfl hA a' L.length c' (L.map (Value.int .i64)) rfl (by simp) hcl (ints_one L) (by unfold maxLen; omega) (by omega) (by simp) ?_
           intro v1 W1 hown1 hg1
           have hb1' := hb1.grown hg1 (by simp) (own_ge hA)
           rw [Nat.zero_add, List.nil_append] at hown1
           obtain ⟨a1, c1, rfl, hls⟩ := cl_step hown1 (by omega) hrg hlt0
           have hownj := own_below2 hown hb1'
           have hrcj := hrc.gro (Below.gr' hb1') (fun k hk => by cases hk) (.inl rfl)
           have hbW := below_one (w := W1) (.cells #[.slice a1 L.length c1] 23)
           have hcls := Cls.of_bx (Bx.new W1 #[.slice a1 L.length c1] 23)
           have hsz1 := hb1'.size)
        | (at_builtin; refine wpList_appAt rfl (.tmp 11) (.tmp 18) 22 rfl w.heap.size 23 i0 (.slice none 0 0) 1 24 under22 hi0 iz0 iz1 iz2 rfl (by decide) (.slice b k d) k vs rfl (own_below2 hownj hbW) (some ⟨W1.heap.size, 0, none⟩) 1 1 [.slice a1 L.length c1] rfl rfl hcls (by simp; rfl) (by unfold maxLen; omega) (by omega) (by simp; omega) ?_
           intro v3 W3 hown3 hg3 hat))
      have hgt := (World.grownBy_alloc W1 (.cells #[.slice a1 L.length c1] 23) (Value.slice b k d).ownBlock).trans hg3
      have hb3 : Below w.heap.size w W3 := ((hb.trans (hb1'.mono hwo)).trans (hbW.mono (by omega))).grown hg3 (by simp; omega) (fun q hq => by have := hge0 q hq; omega)
      obtain ⟨a3, c3, rfl⟩ := own_slice2 hown3
      have hat2 : (Value.slice a3 (k + 1) c3).ownBlock = (Value.slice b k d).ownBlock ∨ ∃ q, (Value.slice a3 (k + 1) c3).ownBlock = some q ∧ W1.heap.size ≤ q := by
        rcases hat with h | h
        · exact .inl h
        · exact .inr ⟨_, h, by simp⟩
      have hrc1 := hrcj.gro hgt (fun q hq => hq) hat2
      have hls3 := hls.gro hgt (fun q hq => hq) hat2
      have hsz3 := hgt.size
      have hrc3 := Rc.snoc (T' := W3.heap.size) (by omega) (x := .slice a1 L.length c1) (ks := L) (by
        obtain ⟨z0, z1, z2, z3, z4, z5⟩ := hls3
        exact ⟨z0, z1, z2, z3, z4, fun ad e => by
          obtain ⟨q1, q2, q3, q4⟩ := z5 ad e
          exact ⟨q1, q3, q3, q4⟩⟩) hrc1
      rw [← HTK.out] at hrc3
      clear hown hrc hc hc1 hI hcl hA hb1 hown1 hg1 hb1' hls hownj hrcj hbW hcls hg3 hat hgt hat2 hrc1 hls3 hb
      go_roundw
      case rel => exact ⟨k + 1, a3, c3, vs ++ [.slice a1 L.length c1], by omega, by go_num, rfl, hown3, hb3, hrc3⟩
      case measure => simp [intOf]; omega
    · obtain rfl : k = n := by omega
      have e : LL.take k = LL := List.take_of_length_le (by have := HN.out; omega)
      rw [e] at hrc
      have hres : Below w.heap.size w wo ∧ ∃ (a : Option Addr) (c : Nat) (us : List Value), Ending.returned (.slice b k d) = .returned (.slice a k c) ∧ wo.ownsRow w.heap.size 23 1 (.slice a k c) k us ∧ Rc wo (Value.slice a k c).ownBlock w.heap.size wo.heap.size us LL := ⟨hb, b, d, vs, rfl, hown, hrc⟩
      have HR := hid hres
      clear hres hrc hown e
      go_wp2
      go_ret
      exact HR.out
end Go.Proofs.Ytipdohpbilabiaa
