import Derived.Test.YtmkmnedojgigoaaV1
import Derived.Test.YtmkmnedojgigoaaE1
import Derived.Test.YtmkmnedojgigoaaR2
namespace Go.Proofs.Ytmkmnedojgigoaa
open Go.RowKit

/-- Each bag with each number of coins of one more kind. -/
def exl (q : Bg) (k : Nat) (n : Nat) : List Bg := (List.range n).map (q.set k)
def ext (b : Bg) (k : Nat) (L : List Bg) : List Bg := L.flatMap fun q => exl q k (b.get k + 1)
/-- All bags that can be left of the first k kinds. -/
def prt (b : Bg) : Nat → List Bg
  | 0 => [⟨0, 0, 0, 0⟩]
  | k + 1 => ext b k (prt b k)
theorem exl_len (q : Bg) (k n : Nat) : (exl q k n).length = n := by simp [exl]
theorem exl_next (q : Bg) (k n : Nat) : exl q k (n + 1) = exl q k n ++ [q.set k n] := by simp [exl, List.range_succ]
theorem ext_app (b : Bg) (k : Nat) (L M : List Bg) : ext b k (L ++ M) = ext b k L ++ ext b k M := by simp [ext]
theorem ext_one (b : Bg) (k : Nat) (q : Bg) : ext b k [q] = exl q k (b.get k + 1) := by simp [ext]
theorem ext_len (b : Bg) (k : Nat) : ∀ L : List Bg, (ext b k L).length = L.length * (b.get k + 1)
  | [] => by simp [ext]
  | q :: L => by
    have := ext_len b k L
    show (exl q k (b.get k + 1) ++ ext b k L).length = _
    rw [List.length_append, exl_len, this, List.length_cons, Nat.succ_mul]; omega
theorem prt_len {b : Bg} (hb : ∀ k, b.get k ≤ 12) : ∀ k, k ≤ 4 → 1 ≤ (prt b k).length ∧ (prt b k).length ≤ 13 ^ k
  | 0, _ => by simp [prt]
  | k + 1, h => by
    have ih := prt_len hb k (by omega)
    have h1 := hb k
    show 1 ≤ (ext b k (prt b k)).length ∧ _
    rw [show prt b (k + 1) = ext b k (prt b k) from rfl, ext_len]
    refine ⟨Nat.mul_le_mul ih.1 (show 1 ≤ b.get k + 1 by omega), ?_⟩
    have := Nat.mul_le_mul ih.2 (show b.get k + 1 ≤ 13 by omega)
    rwa [← Nat.pow_succ] at this
theorem prt_le {b : Bg} (hb : ∀ k, b.get k ≤ 12) {k : Nat} (hk : k ≤ 3) : (prt b k).length ≤ 2197 := by
  have h1 := (prt_len hb k (by omega)).2
  have h2 : 13 ^ k ≤ 13 ^ 3 := Nat.pow_le_pow_right (by omega) hk
  omega

theorem set_grown (w : World) (a : Addr) (v : Value) : w.grownBy (w.setCell a v) (some a.block) :=
  ⟨rfl, rfl, rfl, by simp, fun k _ hk => heap_setCell_other w a k v (fun e => hk (by simp [e]))⟩
theorem bagsLt {L : List Bg} {i : Nat} {q : Bg} (h : L[i]? = some q) : L.take (i + 1) = L.take i ++ [q] := by
  rw [List.take_add_one, h]; rfl

def PartsPost (b : Bg) (w : World) (e : Ending) (w' : World) : Prop :=
  Below w.heap.size w w' ∧ ∃ (v : Value), e = .returned v ∧ w'.ownsRow w.heap.size 92 4 v (prt b 4).length (bgc (prt b 4))

set_option maxRecDepth 100000 in
set_option maxHeartbeats 3000000 in
theorem parts_any (q0 : Bg) (w : World) (hq : ∀ k, q0.get k ≤ 12) :
    Calls Try.prog 102 #[.agg #[.int .i64 q0.a, .int .i64 q0.b, .int .i64 q0.c, .int .i64 q0.d]] w (PartsPost q0 w) := by
  obtain ⟨j0, hj, jz0, jz1, jz2⟩ := info_parts info92
  obtain ⟨W, hW, hb, hs, x0⟩ := boxes1 w #[.int .i64 q0.a, .int .i64 q0.b, .int .i64 q0.c, .int .i64 q0.d] 92
  have y : (W.alloc (.cells #[.int .i64 0, .int .i64 0, .int .i64 0, .int .i64 0] 92)).ownsRow w.heap.size 92 4 (.slice (some ⟨W.heap.size, 0, none⟩) 1 1) 1 (bgc (prt q0 0)) := World.ownsRow_lit W #[.int .i64 0, .int .i64 0, .int .i64 0, .int .i64 0] 1 hb.size (by unfold maxLen; omega) rfl
  have hb1 := below_one (w := W) (.cells #[.int .i64 0, .int .i64 0, .int .i64 0, .int .i64 0] 92)
  replace x0 := x0.below hb1
  replace hb := hb.trans (hb1.mono hb.size)
  clear hb1 hs
  have c0 := x0.cell 0 rfl; have c1 := x0.cell 1 rfl; have c2 := x0.cell 2 rfl; have c3 := x0.cell 3 rfl
  go_enter Try.func102, Try.ntmps102
  go_wp2
  clear hW c0 c1 c2 c3 x0
  generalize W.alloc _ = W1 at *
  go_loopw [3, 13] (fun v3 v13 wr => ∃ (k : Nat), k ≤ 4 ∧ v13 = .int .i64 (k : Int) ∧ wr.ownsRow w.heap.size 92 4 v3 (prt q0 k).length (bgc (prt q0 k)) ∧ Below w.heap.size w wr) (fun _ v13 _ => 4 - (intOf v13).toNat)
  case atStart => exact ⟨0, Nat.zero_le _, rfl, y, hb⟩
  case round =>
    clear y hb
    obtain ⟨k, hk, rfl, hown, hb⟩ := hrel
    obtain ⟨wo, rfl⟩ : ∃ wo : World, wo = wr := ⟨_, rfl⟩
    by_cases hlt : k < 4
    · have hix := bag_index q0 hlt
      have hqk := hq k
      have hpl := prt_le hq (show k ≤ 3 by omega)
      have hp1 := (prt_len hq k (by omega)).1
      have hS : prt q0 (k + 1) = ext q0 k (prt q0 k) := rfl
      have HS := hid hS
      obtain ⟨L, hL⟩ : ∃ x, x = prt q0 k := ⟨_, rfl⟩
      rw [← hL] at hown hpl hp1 HS
      obtain ⟨n, hn⟩ : ∃ x, x = q0.get k := ⟨_, rfl⟩
      rw [← hn] at hix hqk
      have Hn := hid hn
      obtain ⟨m, hm⟩ : ∃ x, x = L.length := ⟨_, rfl⟩
      rw [← hm] at hown hpl hp1
      have Hm := hid hm
      clear hS hL hn hm
      obtain ⟨g, cap, rfl⟩ := Go.Joins.ownsRow_form hown (by omega)
      have hltI : (k : Int) < 4 := by omega
      go_wp2
      go_loopw [6, 19] (fun v6 v19 wi => ∃ i, i ≤ m ∧ v19 = .int .i64 (i : Int) ∧ wi.ownsRow wo.heap.size 92 4 v6 (ext q0 k (L.take i)).length (bgc (ext q0 k (L.take i))) ∧ Below wo.heap.size wo wi) (fun _ v19 _ => m - (intOf v19).toNat)
      case atStart => exact ⟨0, Nat.zero_le _, rfl, World.ownsRow_nil _ _ _ _, Below.refl _ _⟩
      case round =>
        obtain ⟨i, hi, rfl, hown6, hb6⟩ := hrel
        obtain ⟨wi, rfl⟩ : ∃ x : World, x = wr := ⟨_, rfl⟩
        have hown3 := own_below2 hown hb6
        obtain ⟨p6, hp6⟩ : ∃ x, x = (ext q0 k (L.take i)).length := ⟨_, rfl⟩
        rw [← hp6] at hown6
        have hp6b : p6 ≤ 2197 * 13 := by
          rw [hp6, ext_len, ← Hn.out]
          exact Nat.mul_le_mul (by rw [List.length_take]; omega) (by omega)
        have Hp6 := hid hp6; clear hp6
        by_cases hil : i < m
        · obtain ⟨q, hq1⟩ : ∃ q, L[i]? = some q := ⟨L[i]'(by rw [← Hm.out]; exact hil), List.getElem?_eq_getElem _⟩
          have hc := bgc_at L i q hq1
          have z0 := hown3.cellAt (i * 4) (by omega)
          have z1 := hown3.cellAt (i * 4 + 1) (by omega)
          have z2 := hown3.cellAt (i * 4 + 2) (by omega)
          have z3 := hown3.cellAt (i * 4 + 3) (by omega)
          rw [hc.1] at z0; rw [hc.2.1] at z1; rw [hc.2.2.1] at z2; rw [hc.2.2.2] at z3
          have Htk := hid (bagsLt hq1)
          clear hc hq1
          have hilI : (i : Int) < (m : Int) := by omega
          go_wp2
          obtain ⟨W8, hW8, hb8, hs8, x8⟩ := boxes1 wi #[.int .i64 q.a, .int .i64 q.b, .int .i64 q.c, .int .i64 q.d] 92
          rw [hW8]
          clear hW8 z0 z1 z2 z3 hown3
          go_loopw [6, 25] (fun v6 v25 wj => ∃ l, l ≤ n + 1 ∧ v25 = .int .i64 (l : Int) ∧ wj.ownsRow wo.heap.size 92 4 v6 (p6 + l) (bgc (ext q0 k (L.take i) ++ exl q k l)) ∧ Below wo.heap.size wo wj ∧ v6.ownBlock ≠ some wi.heap.size ∧ ∃ q' : Bg, Bx wj wi.heap.size q'.vs 92 ∧ ∀ v, q'.set k v = q.set k v) (fun _ v25 _ => n + 1 - (intOf v25).toNat)
          case atStart => exact ⟨0, Nat.zero_le _, rfl, by simpa [exl] using own_below2 hown6 hb8, hb6.trans (hb8.mono hb6.size), fun h => by have := (hown6.lt _ h).2; omega, q, x8, fun _ => rfl⟩
          case round =>
            clear x8 hb8 hs8
            obtain ⟨l, hl, rfl, hownj, hbj, hne, q', xq, hqs⟩ := hrel
            obtain ⟨wj, rfl⟩ : ∃ x : World, x = wr := ⟨_, rfl⟩
            obtain ⟨p, hp⟩ : ∃ x, x = p6 + l := ⟨_, rfl⟩
            rw [← hp] at hownj
            have hpb : p ≤ 2197 * 13 + 13 := by omega
            have Hp := hid hp; clear hp
            have hg8 : wo.heap.size ≤ wi.heap.size := hb6.size
            by_cases hll : l < n + 1
            · have i1 : (l : Int) < (n : Int) + 1 := by omega
              have fr := xq.free k
              have ck := xq.cell k (Bg.vs_at q' hlt)
              go_upto_region 13 with fail
              have x9 := xq.set k (.int .i64 (l : Nat))
              rw [Bg.vs_set _ hlt, hqs] at x9
              have hown9 := hownj.kept (set_grown wj ⟨wi.heap.size, k, none⟩ (.int .i64 (l : Nat))) (.inr hne)
              have hb9 := hbj.setCell (show wo.heap.size ≤ (⟨wi.heap.size, k, none⟩ : Addr).block from hg8) (.int .i64 (l : Nat))
              generalize wj.setCell _ _ = W9 at *
              clear xq hownj hbj fr ck hqs
              obtain ⟨qn, hqn⟩ : ∃ x, x = q.set k l := ⟨_, rfl⟩
              rw [← hqn] at x9
              have Hqn := hid hqn; clear hqn
              have c0 := x9.cell 0 rfl; have c1 := x9.cell 1 rfl; have c2 := x9.cell 2 rfl; have c3 := x9.cell 3 rfl
              have hb1 := below_one (w := W9) (.cells #[.int .i64 qn.a, .int .i64 qn.b, .int .i64 qn.c, .int .i64 qn.d] 92)
              have hown1 := own_below2 hown9 hb1
              have hnew := Cls.of_bx (Bx.new W9 #[.int .i64 qn.a, .int .i64 qn.b, .int .i64 qn.c, .int .i64 qn.d] 92)
              have hsz9 := hb9.size
              go_wp2_with (at_builtin; refine wpList_appAt rfl (.tmp 31) (.tmp 33) 122 rfl wo.heap.size 92 j0 (.agg #[.int .i64 0, .int .i64 0, .int .i64 0, .int .i64 0]) 4 32 under122 hj jz0 jz1 jz2 rfl (by decide) _ p _ rfl hown1 (some ⟨W9.heap.size, 0, none⟩) 1 1 [.int .i64 qn.a, .int .i64 qn.b, .int .i64 qn.c, .int .i64 qn.d] rfl rfl hnew (bgc_one [qn]) (by unfold maxLen; omega) (by omega) (by simp; omega) ?_; intro v1 Y2 hown2 hg hat)
              have hge := fun k hk => (hown1.lt k hk).1
              have x10 := (x9.below hb1).gb hg (fun k hk e => hne (e ▸ hk))
              have hb10 : Below wo.heap.size wo Y2 := (hb9.trans (hb1.mono hb9.size)).grown hg (by simp; omega) (fun k hk => hge k hk)
              have lx := x9.lt
              have hne2 : v1.ownBlock ≠ some wi.heap.size := fun h => by
                rcases hat with h' | h'
                · exact hne (h' ▸ h)
                · rw [h'] at h; simp at h; omega
              clear hown1 hown9 hnew hg hat hge hb9 hb1 c0 c1 c2 c3 x9 hne
              go_wp2
              go_roundw
              case rel => exact ⟨l + 1, by omega, by go_num, by rw [exl_next, ← Hqn.out, ← List.append_assoc, bgc_app, ← Nat.add_assoc, ← Hp.out]; exact hown2, hb10, hne2, qn, x10, fun v => by rw [Hqn.out, Bg.get_set]⟩
              case measure => simp [intOf]; omega
            · have i1 : (n : Int) + 1 ≤ (l : Int) := by omega
              have hnx : ext q0 k (L.take i) ++ exl q k l = ext q0 k (L.take (i + 1)) := by
                rw [Htk.out, ext_app, ext_one, ← Hn.out, show l = n + 1 by omega]
              have hpx : p = (ext q0 k (L.take (i + 1))).length := by rw [← hnx, List.length_append, exl_len, ← Hp6.out, Hp.out]
              rw [hnx] at hownj
              clear hnx
              go_wp2
              go_roundw
              case rel => exact ⟨i + 1, by omega, by go_num, by rw [← hpx]; exact hownj, hbj⟩
              case measure => simp [intOf]; omega
        · have hilI : (m : Int) ≤ (i : Int) := by omega
          have hnx : ext q0 k (L.take i) = prt q0 (k + 1) := by rw [List.take_of_length_le (by rw [← Hm.out]; omega), HS.out]
          have hpx : p6 = (prt q0 (k + 1)).length := by rw [← hnx]; exact Hp6.out
          rw [hnx] at hown6
          clear hnx
          go_wp2
          go_roundw
          case rel => exact ⟨k + 1, by omega, by go_num, by rw [← hpx]; exact Go.Joins.ownsRow_le hown6 hb.size, hb.trans (hb6.mono hb.size)⟩
          case measure => simp [intOf]; omega
    · have hk4 : (4 : Int) ≤ (k : Int) := by omega
      go_wp2
      go_ret
      obtain rfl : k = 4 := by omega
      exact ⟨hb, _, rfl, hown⟩
end Go.Proofs.Ytmkmnedojgigoaa
namespace Go.Proofs.Ytmkmnedojgigoaa
open Go.RowKit

def spB (q : Bg) : Sp := ⟨q.a, q.b, q.c, q.d, 0, 0⟩
/-- One part is looked at. -/
def wst1 (A M : Nat) (f g : Bg → Nat) (l : Nat) (q : Bg) : Nat := if l < A - f q ∧ g q = M then A - f q else l
theorem mem_prt (b q : Bg) : q ∈ prt b 4 ↔ q.a ≤ b.a ∧ q.b ≤ b.b ∧ q.c ≤ b.c ∧ q.d ≤ b.d := by
  obtain ⟨a, b', c, d⟩ := q
  simp only [prt, ext, exl, List.mem_flatMap, List.mem_map, List.mem_range, List.mem_singleton, Bg.get, Bg.set]
  constructor
  · rintro ⟨_, ⟨_, ⟨_, ⟨_, rfl, v0, h0, rfl⟩, v1, h1, rfl⟩, v2, h2, rfl⟩, v3, h3, h⟩
    simp only [Bg.mk.injEq] at h
    obtain ⟨rfl, rfl, rfl, rfl⟩ := h
    omega
  · rintro ⟨h0, h1, h2, h3⟩
    exact ⟨_, ⟨_, ⟨_, ⟨_, rfl, a, by omega, rfl⟩, b', by omega, rfl⟩, c, by omega, rfl⟩, d, by omega, rfl⟩
theorem get_le {q b : Bg} (h0 : q.a ≤ b.a) (h1 : q.b ≤ b.b) (h2 : q.c ≤ b.c) (h3 : q.d ≤ b.d) : ∀ k, q.get k ≤ b.get k
  | 0 => h0
  | 1 => h1
  | 2 => h2
  | _ + 3 => h3
theorem get_12 {b : Bg} (h : b.a + b.b + b.c + b.d ≤ 12) : ∀ k, b.get k ≤ 12
  | 0 => by show b.a ≤ 12; omega
  | 1 => by show b.b ≤ 12; omega
  | 2 => by show b.c ≤ 12; omega
  | _ + 3 => by show b.d ≤ 12; omega
theorem bws_mono {C : List Int} {q b : Bg} (h : ∀ k, q.get k ≤ b.get k) : ∀ k, bws C q k ≤ bws C b k
  | 0 => Nat.le_refl _
  | k + 1 => by
    have ih := bws_mono (C := C) h k
    have := Nat.mul_le_mul_right (cw C k) (h k)
    unfold bws; omega

theorem wst_le (A M : Nat) (f g : Bg → Nat) : ∀ (L : List Bg) (l : Nat), l ≤ A → L.foldl (wst1 A M f g) l ≤ A
  | [], _, h => h
  | q :: L, l, h => by
    rw [List.foldl_cons]
    refine wst_le A M f g L _ ?_
    unfold wst1
    split <;> omega

def WPost (mb : Nat) (v : Nat) (w : World) (e : Ending) (w' : World) : Prop := e = .returned (.int .i64 (v : Nat)) ∧ w.grownBy w' (some mb)
theorem gr_trans {a b c : World} {r : Option Nat} (h : a.grownBy b r) (k : b.grownBy c r) : a.grownBy c r := h.trans k

set_option maxRecDepth 100000 in
set_option maxHeartbeats 3000000 in
theorem wasted_any (R : Nat) (an ac ap : Option Addr) (cn cc cp : Nat) (N C P : List Int) (mb : Nat) (q0 : Bg) (w : World) (D : DataW Unit) (k : Nat) (hk : Wk w R an ac ap N C P) (hoff : OffW mb an ac ap N C P) (hown : OwnM w mb k D) (hmem : MemoB btm R N C D) (hkb : k ≤ 100000000000000000) (hsum : q0.a + q0.b + q0.c + q0.d ≤ 12) :
    Calls Try.prog 79 #[.agg #[.int .i64 (R : Int), .slice an N.length cn, .slice ac C.length cc, .slice ap P.length cp, .func (.func 75) #[] #[], .map (some mb)], .agg #[.int .i64 q0.a, .int .i64 q0.b, .int .i64 q0.c, .int .i64 q0.d]] w
      (WPost mb ((prt q0 4).foldl (wst1 (bws C q0 C.length) (bst btm R N C (spB q0)) (fun q => bws C q C.length) (fun q => bst btm R N C (spB q))) 0) w) := by
  have hq0 := get_12 hsum
  have hmlt := hown.lt
  have hv := hk.v
  obtain ⟨W, hW, hbw, hs, x0, x1⟩ := boxes2 w #[.int .i64 (R : Int), .slice an N.length cn, .slice ac C.length cc, .slice ap P.length cp, .func (.func 75) #[] #[], .map (some mb)] 90 #[.int .i64 q0.a, .int .i64 q0.b, .int .i64 q0.c, .int .i64 q0.d] 92
  replace hown := hown.gr hbw
  replace hk := hk.below hbw (Nat.le_refl _)
  have hg := Below.gr hbw mb
  clear hs hbw
  obtain ⟨A, hA⟩ : ∃ x, x = bws C q0 C.length := ⟨_, rfl⟩
  obtain ⟨M, hM⟩ : ∃ x, x = bst btm R N C (spB q0) := ⟨_, rfl⟩
  obtain ⟨f, hf⟩ : ∃ x : Bg → Nat, x = fun q => bws C q C.length := ⟨_, rfl⟩
  obtain ⟨g, hgg⟩ : ∃ x : Bg → Nat, x = fun q => bst btm R N C (spB q) := ⟨_, rfl⟩
  rw [← hA, ← hM, ← hf, ← hgg]
  have hAb : A ≤ 4800 := by have := bws_le hv hq0 C.length (Nat.le_refl _); have := hv.c4; omega
  have HA := hid hA; have HM := hid hM; have Hf := hid hf; have Hgg := hid hgg
  clear hA hM hf hgg
  go_enter Try.func79, Try.ntmps79
  go_wp2_with fail
  have hbd : Below W.heap.size W W.drew := (Below.refl _ _).drew
  replace x0 := x0.below hbd; replace x1 := x1.below hbd; replace hown := hown.gr hbd; replace hk := hk.below hbd (Nat.le_refl _); replace hg := gr_trans hg (Below.gr hbd mb)
  clear hbd
  refine wp_region_head 8 (fun w' => Bx w' w.heap.size #[.int .i64 (R : Int), .slice an N.length cn, .slice ac C.length cc, .slice ap P.length cp, .func (.func 75) #[] #[], .map (some mb)] 90 ∧ Bx w' (w.heap.size + 1) #[.int .i64 q0.a, .int .i64 q0.b, .int .i64 q0.c, .int .i64 q0.d] 92) (by kernel_rfl) rfl ?_
  generalize World.drew _ = Y0 at *
  clear hW
  refine HeadAt.take (i := 0) (.agg #[.int .i64 (R : Int), .slice an N.length cn, .slice ac C.length cc, .slice ap P.length cp, .func (.func 75) #[] #[], .map (some mb)]) rfl (by kernel_rfl) (.inl ⟨rfl, fun w' z => ?_⟩) ⟨x0, x1⟩ ?_
  · (have z0 := z.1.cell 0 rfl; have z1 := z.1.cell 1 rfl; have z2 := z.1.cell 2 rfl; have z3 := z.1.cell 3 rfl; have z4 := z.1.cell 4 rfl; have z5 := z.1.cell 5 rfl; simp [go_sem, z0, z1, z2, z3, z4, z5])
  refine HeadAt.take (i := 1) (.agg #[.int .i64 q0.a, .int .i64 q0.b, .int .i64 q0.c, .int .i64 q0.d]) rfl (by kernel_rfl) (.inl ⟨rfl, fun w' z => ?_⟩) ⟨x0, x1⟩ ?_
  · (have z0 := z.2.cell 0 rfl; have z1 := z.2.cell 1 rfl; have z2 := z.2.cell 2 rfl; have z3 := z.2.cell 3 rfl; simp [go_sem, z0, z1, z2, z3])
  refine HeadAt.take (i := 3) (.pointer (some ⟨w.heap.size, 0, none⟩)) rfl (by kernel_rfl) (.inl ⟨rfl, fun _ _ => by simp [go_sem]⟩) ⟨x0, x1⟩ ?_
  refine HeadAt.take (i := 4) (.agg #[.int .i64 (R : Int), .slice an N.length cn, .slice ac C.length cc, .slice ap P.length cp]) rfl (by kernel_rfl) (.inl ⟨rfl, fun w' z => ?_⟩) ⟨x0, x1⟩ ?_
  · (have z0 := z.1.cell 0 rfl; have z1 := z.1.cell 1 rfl; have z2 := z.1.cell 2 rfl; have z3 := z.1.cell 3 rfl; simp [go_sem, z0, z1, z2, z3])
  refine HeadAt.take (i := 5) (.agg #[.int .i64 q0.a, .int .i64 q0.b, .int .i64 q0.c, .int .i64 q0.d]) rfl (by kernel_rfl) (.inl ⟨rfl, fun w' z => ?_⟩) ⟨x0, x1⟩ ?_
  · (have z0 := z.2.cell 0 rfl; have z1 := z.2.cell 1 rfl; have z2 := z.2.cell 2 rfl; have z3 := z.2.cell 3 rfl; simp [go_sem, z0, z1, z2, z3])
  refine HeadAt.one (i := 2) rfl (by kernel_rfl) ?_
  generalize hK : Upto _ _ = K0
  (try simp only [Act.put, List.getElem_toArray, List.getElem_cons_succ, List.getElem_cons_zero, List.setIfInBounds_toArray, List.set_cons_succ, List.set_cons_zero])
  go_wp2_with fail
  refine (buys_75 _ _ _ _ _ _ _ _ _ _ mb q0.a q0.b q0.c q0.d _ D k hk hoff hown hmem (by omega) hsum).mono ?_
  rintro e Y1 ⟨rfl, D1, k1, hg1, hown1, hmem1, hk1⟩
  replace x0 := x0.gr hg1 (by omega); replace x1 := x1.gr hg1 (by omega); replace hk := hk.gr hg1 hoff; replace hg := gr_trans hg hg1
  clear hown hmem hg1
  rw [show bst btm R N C ⟨q0.a, q0.b, q0.c, q0.d, 0, 0⟩ = M from HM.out.symm]
  go_wp2_with fail
  subst hK
  refine ⟨⟨x0, x1⟩, ?_⟩
  refine HeadAt.one (i := 6) rfl (by kernel_rfl) ?_
  generalize hK : Upto _ _ = K0
  (try simp only [List.getElem_toArray, List.getElem_cons_succ, List.getElem_cons_zero])
  go_wp2_with fail
  refine (cents_any _ _ _ _ _ _ _ _ _ _ q0 _ hk hq0).mono ?_
  rintro e Y2 ⟨rfl, hb1⟩
  replace x0 := x0.below hb1; replace x1 := x1.below hb1; replace hk := hk.below hb1 (Nat.le_refl _); replace hown1 := hown1.gr hb1; replace hg := gr_trans hg (Below.gr hb1 mb)
  clear hb1
  rw [← HA.out]
  go_wp2_with fail
  subst hK
  refine ⟨⟨x0, x1⟩, ?_⟩
  refine HeadAt.take (i := 7) (.int .i64 (M : Nat)) rfl (by kernel_rfl) (.inl ⟨rfl, fun _ _ => by simp [go_sem]⟩) ⟨x0, x1⟩ ?_
  refine HeadAt.done (by kernel_rfl) ?_
  (try simp only [Act.put, List.drop_succ_cons, List.drop_zero, List.getElem_toArray, List.getElem_cons_succ, List.getElem_cons_zero])
  have c0 := x1.cell 0 rfl; have c1 := x1.cell 1 rfl; have c2 := x1.cell 2 rfl; have c3 := x1.cell 3 rfl
  go_wp2_with fail
  refine NoPanic.normal ?_
  go_wp2_with fail
  refine (parts_any q0 _ hq0).mono ?_
  rintro e Y3 ⟨hb1, v, rfl, hrow⟩
  have hY2 := x1.lt
  replace x0 := x0.below hb1; replace x1 := x1.below hb1; replace hk := hk.below hb1 (Nat.le_refl _); replace hown1 := hown1.gr hb1; replace hg := gr_trans hg (Below.gr hb1 mb)
  clear hb1 c0 c1 c2 c3
  obtain ⟨L, hL⟩ : ∃ x, x = prt q0 4 := ⟨_, rfl⟩
  have hLm : ∀ q ∈ L, (∀ j, q.get j ≤ q0.get j) ∧ q.a + q.b + q.c + q.d ≤ 12 := fun q hq => by
    rw [hL] at hq
    obtain ⟨h1, h2, h3, h4⟩ := (mem_prt q0 q).1 hq
    exact ⟨get_le h1 h2 h3 h4, by omega⟩
  have hLl : 1 ≤ L.length ∧ L.length ≤ 28561 := by rw [hL]; exact prt_len hq0 4 (Nat.le_refl _)
  rw [← hL] at hrow
  have HL := hid hL
  clear hL
  obtain ⟨m, hm⟩ : ∃ x, x = L.length := ⟨_, rfl⟩
  rw [← hm] at hrow hLl
  have Hm := hid hm; clear hm
  have HLm := hid hLm; clear hLm
  obtain ⟨gg, cap, rfl⟩ := Go.Joins.ownsRow_form hrow (by omega)
  have hgb : Y2.heap.size ≤ gg := (hrow.lt gg rfl).1
  go_wp2
  go_loopw [7, 21] (fun v7 v21 wr => ∃ i, i ≤ m ∧ v21 = .int .i64 (i : Int) ∧ v7 = .int .i64 ((L.take i).foldl (wst1 A M f g) 0 : Nat) ∧ Y3.grownBy wr (some mb) ∧ ∃ (D' : DataW Unit) (k' : Nat), OwnM wr mb k' D' ∧ MemoB btm R N C D' ∧ k' ≤ k + (i + 1) * 2000000000000) (fun _ v21 _ => m - (intOf v21).toNat)
  case atStart => exact ⟨0, Nat.zero_le _, rfl, rfl, World.grownBy.refl _ _, D1, k1, hown1, hmem1, by omega⟩
  case round =>
    clear hown1 hmem1
    obtain ⟨i, hi, rfl, rfl, hgr, D', k', hown', hmem', hk'⟩ := hrel
    have hrow' := hrow.kept hgr (.inr (fun h => by simp [Value.ownBlock] at h; omega))
    have y0 := x0.gr hgr (by omega)
    have hkr := hk.gr hgr hoff
    obtain ⟨kp, hkp⟩ : ∃ x, x = (L.take i).foldl (wst1 A M f g) 0 := ⟨_, rfl⟩
    rw [← hkp]
    have Hkp := hid hkp; clear hkp
    obtain ⟨wo, rfl⟩ : ∃ wo : World, wo = wr := ⟨_, rfl⟩
    by_cases hil : i < m
    · obtain ⟨q, hq1⟩ : ∃ q, L[i]? = some q := ⟨L[i]'(by rw [← Hm.out]; exact hil), List.getElem?_eq_getElem _⟩
      have hqm := HLm.out q (List.mem_of_getElem? hq1)
      have hq12 := get_12 hqm.2
      have hfA : f q ≤ A := by rw [Hf.out, HA.out]; exact bws_mono hqm.1 _
      have hc := bgc_at L i q hq1
      have z0 := hrow'.cellAt (i * 4) (by omega)
      have z1 := hrow'.cellAt (i * 4 + 1) (by omega)
      have z2 := hrow'.cellAt (i * 4 + 2) (by omega)
      have z3 := hrow'.cellAt (i * 4 + 3) (by omega)
      rw [hc.1] at z0; rw [hc.2.1] at z1; rw [hc.2.2.1] at z2; rw [hc.2.2.2] at z3
      have Hst := hid (show (L.take (i + 1)).foldl (wst1 A M f g) 0 = wst1 A M f g kp q by rw [bagsLt hq1, List.foldl_append, ← Hkp.out]; rfl)
      clear hc hq1
      have hilI : (i : Int) < (m : Int) := by omega
      go_upto_region 6 with fail
      obtain ⟨W8, hW8, hb8, hs8, x8⟩ := boxes1 wo #[.int .i64 q.a, .int .i64 q.b, .int .i64 q.c, .int .i64 q.d] 92
      rw [hW8]
      replace hgr := gr_trans hgr (Below.gr hb8 mb)
      replace y0 := y0.below hb8
      replace hkr := hkr.below hb8 (Nat.le_refl _)
      replace hown' := hown'.gr hb8
      clear hW8 z0 z1 z2 z3 hb8 hs8
      have hmo := y0.lt
      have hne8 : wo.heap.size ≠ mb := by have := hrow'.lt gg rfl; omega
      clear hrow'
      have e0 := x8.cell 0 rfl; have e1 := x8.cell 1 rfl; have e2 := x8.cell 2 rfl; have e3 := x8.cell 3 rfl
      have c0 := y0.cell 0 rfl; have c1 := y0.cell 1 rfl; have c2 := y0.cell 2 rfl; have c3 := y0.cell 3 rfl; have c4 := y0.cell 4 rfl; have c5 := y0.cell 5 rfl
      go_wp2_with fail
      refine (cents_any _ _ _ _ _ _ _ _ _ _ q _ hkr hq12).mono ?_
      rintro e W9 ⟨rfl, hb9⟩
      replace hgr := gr_trans hgr (Below.gr hb9 mb)
      replace y0 := y0.below hb9
      replace x8 := x8.below hb9
      replace hkr := hkr.below hb9 (Nat.le_refl _)
      replace hown' := hown'.gr hb9
      clear hb9 e0 e1 e2 e3 c0 c1 c2 c3 c4 c5
      rw [show bws C q C.length = f q by rw [Hf.out]]
      have Hgq := hid (show g q = bst btm R N C ⟨q.a, q.b, q.c, q.d, 0, 0⟩ by rw [Hgg.out]; rfl)
      obtain ⟨fq, hfq⟩ : ∃ x, x = f q := ⟨_, rfl⟩
      rw [← hfq] at hfA ⊢
      have Hfq := hid hfq; clear hfq
      have hkpA : kp ≤ 4800 := by have := wst_le A M f g (L.take i) 0 (Nat.zero_le _); rw [← Hkp.out] at this; omega
      by_cases hgt : (kp : Int) < (A : Int) - (fq : Int)
      · have e0 := x8.cell 0 rfl; have e1 := x8.cell 1 rfl; have e2 := x8.cell 2 rfl; have e3 := x8.cell 3 rfl
        have c0 := y0.cell 0 rfl; have c1 := y0.cell 1 rfl; have c2 := y0.cell 2 rfl; have c3 := y0.cell 3 rfl; have c4 := y0.cell 4 rfl; have c5 := y0.cell 5 rfl
        go_wp2_with fail
        refine (buys_75 _ _ _ _ _ _ _ _ _ _ mb q.a q.b q.c q.d _ D' k' hkr hoff hown' hmem' (by omega) hqm.2).mono ?_
        rintro e W10 ⟨rfl, D2, k2, hg1, hown2, hmem2, hk2⟩
        replace hgr := gr_trans hgr hg1
        clear hown' hmem' hg1 e0 e1 e2 e3 c0 c1 c2 c3 c4 c5 y0 x8 hkr
        rw [← Hgq.out]
        obtain ⟨gq, hgq⟩ : ∃ x, x = g q := ⟨_, rfl⟩
        rw [← hgq]
        have Hgq2 := hid hgq; clear hgq
        by_cases hgm : gq = M
        · have hB : ((gq : Int) == (M : Int)) = true := by simp [hgm]
          have Hgm := hid hgm; clear hgm
          go_wp2
          go_roundw
          case rel => exact ⟨i + 1, by omega, by go_num, by rw [Hst.out, wst1, if_pos ⟨by rw [← Hfq.out]; omega, by rw [← Hgq2.out]; exact Hgm.out⟩, ← Hfq.out]; congr 1; omega, hgr, D2, k2, hown2, hmem2, by omega⟩
          case measure => simp [intOf]; omega
        · have hB : ((gq : Int) == (M : Int)) = false := by simp; omega
          have Hgm := hid hgm; clear hgm
          go_wp2
          go_roundw
          case rel => exact ⟨i + 1, by omega, by go_num, by rw [Hst.out, wst1, if_neg (fun h => Hgm.out (by rw [Hgq2.out]; exact h.2))], hgr, D2, k2, hown2, hmem2, by omega⟩
          case measure => simp [intOf]; omega
      · have hgt2 : (A : Int) - (fq : Int) ≤ (kp : Int) := by omega
        have hw2 : wst1 A M f g kp q = kp := by rw [wst1, ← Hfq.out, if_neg (fun h => by have := h.1; omega)]
        rw [hw2] at Hst
        clear hw2 hgt
        clear x8 y0 hkr
        go_wp2
        go_roundw
        case rel => exact ⟨i + 1, by omega, by go_num, by rw [Hst.out], hgr, D', k', hown', hmem', Nat.le_trans hk' (Nat.add_le_add_left (Nat.mul_le_mul_right _ (Nat.le_succ _)) _)⟩
        case measure => simp [intOf]; omega
    · have hilI : (m : Int) ≤ (i : Int) := by omega
      have hfin : kp = L.foldl (wst1 A M f g) 0 := by rw [Hkp.out, List.take_of_length_le (by rw [← Hm.out]; omega)]
      have Hfin := hid hfin; clear hfin
      go_wp2
      go_ret
      exact ⟨by rw [Hfin.out, HL.out]; rfl, gr_trans hg hgr⟩
end Go.Proofs.Ytmkmnedojgigoaa
namespace Go.Proofs.Ytmkmnedojgigoaa
open Go.RowKit

def bagX (xs : List Int) : Bg := ⟨bgN xs 0, bgN xs 1, bgN xs 2, bgN xs 3⟩
/-- What Wasted answers for a purse. -/
def wasteV (R : Nat) (N C xs : List Int) : Nat :=
  (prt (bagX xs) 4).foldl (wst1 (bws C (bagX xs) C.length) (bst btm R N C (spB (bagX xs))) (fun q => bws C q C.length) (fun q => bst btm R N C (spB q))) 0

theorem wst_ge (A M : Nat) (f g : Bg → Nat) : ∀ (L : List Bg) (l : Nat), l ≤ L.foldl (wst1 A M f g) l
  | [], _ => Nat.le_refl _
  | q :: L, l => by
    rw [List.foldl_cons]
    have := wst_ge A M f g L (wst1 A M f g l q)
    have h : l ≤ wst1 A M f g l q := by unfold wst1; split <;> omega
    omega
theorem wst_has (A M : Nat) (f g : Bg → Nat) (q : Bg) (hq : g q = M) : ∀ (L : List Bg) (l : Nat), q ∈ L → A - f q ≤ L.foldl (wst1 A M f g) l
  | [], _, h => by simp at h
  | p :: L, l, h => by
    rw [List.foldl_cons]
    rcases List.mem_cons.1 h with rfl | h
    · have := wst_ge A M f g L (wst1 A M f g l q)
      have h2 : A - f q ≤ wst1 A M f g l q := by
        unfold wst1
        by_cases hl : l < A - f q
        · rw [if_pos ⟨hl, hq⟩]; exact Nat.le_refl _
        · split <;> omega
      omega
    · exact wst_has A M f g q hq L _ h
theorem okP_bag {R : Nat} {N C xs : List Int} (hv : Vw R N C) (ho : okP C xs = true) : bgN xs 0 + bgN xs 1 + bgN xs 2 + bgN xs 3 ≤ 12 := by
  have := (ps0_ok hv ho).2
  exact this
theorem bws_pws {R : Nat} {N C xs : List Int} (hv : Vw R N C) (ho : okP C xs = true) : bws C (bagX xs) C.length = pwS C xs xs.length := by
  obtain ⟨o1, _, _⟩ := okP_mem ho
  have := hv.c4
  rw [bws_all hv, pwS_all (by omega)]; rfl
theorem waste_facts {R : Nat} {N C xs ys : List Int} (hv : Vw R N C) (ho : okP C xs = true) (ho2 : okP C ys = true) (hs : ∀ k, bgN ys k ≤ bgN xs k) :
    wasteV R N C xs ≤ pwS C xs xs.length ∧ bst btm R N C (ps0 ys) ≤ bst btm R N C (ps0 xs) ∧ (pwS C xs xs.length - pwS C ys ys.length ≤ wasteV R N C xs ∨ bst btm R N C (ps0 ys) < bst btm R N C (ps0 xs)) := by
  have hm := bst_mono hv hv (fun p c => Nat.le_refl _) (mu (ps0 ys) + 1) (ps0 ys) (ps0 xs) (by omega) (ps0_ok hv ho2) (ps0_ok hv ho) ⟨hs 0, hs 1, hs 2, hs 3, rfl, Nat.le_refl _⟩
  refine ⟨?_, hm, ?_⟩
  · rw [← bws_pws hv ho]
    exact wst_le _ _ _ _ _ _ (Nat.zero_le _)
  · by_cases h : bst btm R N C (ps0 ys) = bst btm R N C (ps0 xs)
    · left
      have h1 := wst_has (bws C (bagX xs) C.length) (bst btm R N C (spB (bagX xs))) (fun q => bws C q C.length) (fun q => bst btm R N C (spB q)) (bagX ys) h (prt (bagX xs) 4) 0 ((mem_prt _ _).2 ⟨hs 0, hs 1, hs 2, hs 3⟩)
      rw [← bws_pws hv ho, ← bws_pws hv ho2]
      exact h1
    · right; omega

set_option maxRecDepth 100000 in
set_option maxHeartbeats 1000000 in
theorem Wasted_ok (R : Nat) (an ac : Option Addr) (cn cc : Nat) (N C : List Int) (a : Option Addr) (ca : Nat) (xs : List Int) (w : World) (hN : Ints w an N) (hC : Ints w ac C) (hX : Ints w a xs) (hv : Vw R N C) (ho : okP C xs = true) :
    Calls Try.prog 32 #[.agg #[.int .i64 (R : Int), .slice an N.length cn, .slice ac C.length cc], .slice a xs.length ca] w fun e w' => e = .returned (.tuple #[.int .i64 (wasteV R N C xs : Nat), .int .i64 0]) ∧ Below w.heap.size w w' := by
  obtain ⟨W, hW, hb, hs, x0⟩ := boxes1 w #[.int .i64 (R : Int), .slice an N.length cn, .slice ac C.length cc] 24
  clear hs
  replace hN := hN.below hb (Nat.le_refl _); replace hC := hC.below hb (Nat.le_refl _); replace hX := hX.below hb (Nat.le_refl _)
  have c0 := x0.cell 0 rfl; have c1 := x0.cell 1 rfl; have c2 := x0.cell 2 rfl
  have Hv := hid hv; clear hv
  go_enter Try.func32, Try.ntmps32
  go_wp2_with fail
  refine (searchOf_ok_75 _ _ _ _ _ _ _ _ _ _ _ hN hC hX Hv.out ho).mono ?_
  rintro e W1 ⟨ap, cp, P, mb, b0, b1, b2, b3, rfl, hb1, hmb, hk, hoff, hown, B0, B1, B2, B3, hsum⟩
  have hs := hb.size
  replace hb := hb.trans (hb1.mono hb.size)
  have HB := hid (show bagX xs = ⟨b0, b1, b2, b3⟩ by rw [bagX, B0, B1, B2, B3])
  have hz := hb.size
  clear c0 c1 c2 hW x0 hb1 hN hC hX B0 B1 B2 B3
  go_wp2_with fail
  generalize hXX : World.alloc _ _ = W2
  have bb : Below W1.heap.size W1 W2 := by rw [← hXX]; (repeat (first | with_reducible assumption | with_reducible refine Below.alloc ?_ (by simp; try omega) _ | with_reducible refine Below.setCell ?_ (by simp; try omega) _ | with_reducible refine below_drewN ?_ _ | with_reducible exact Below.refl _ _))
  have bb0 := bb
  clear hXX
  replace hk := hk.below bb (Nat.le_refl _); replace hb := hb.trans (bb.mono hb.size); clear bb
  replace hown := hown.gr bb0
  clear bb0
  refine (wasted_any _ _ _ _ _ _ _ _ _ _ mb ⟨b0, b1, b2, b3⟩ _ _ 0 hk hoff hown (MemoB_empty _ _ _ _) (by omega) hsum).mono ?_
  rintro e W3 ⟨rfl, hg1⟩
  rw [← HB.out]
  replace hb := hb.grown hg1 hb.size (fun k hk => by cases hk; omega)
  clear hk hown hg1
  obtain ⟨vv, hvv⟩ : ∃ x, x = wasteV R N C xs := ⟨_, rfl⟩
  have Hvv := hid hvv
  unfold wasteV at hvv
  rw [← hvv]
  clear hvv
  go_wp2
  refine bodyPost_ret (v := .tuple #[.int .i64 (vv : Nat), .int .i64 0]) ?_ rfl ⟨by rw [Hvv.out], hb⟩
  simp [results, Try.results32, go_sem]
end Go.Proofs.Ytmkmnedojgigoaa
