import Derived.Test.YtmkmnedojgigoaaV1
namespace Go.Proofs.Ytmkmnedojgigoaa
open Go.RowKit

/-- Each bag with each number of coins of one more kind. -/
def exl (q : Bg) (k : Nat) (n : Nat) : List Bg := (List.range n).map (q.set k)
def ext (b : Bg) (k : Nat) (L : List Bg) : List Bg := L.flatMap fun q => exl q k (b.get k + 1)
/-- All bags that can be left of the first k kinds. -/
def prt (b : Bg) : Nat → List Bg
  | 0 => [⟨0, 0, 0, 0⟩]
  | k + 1 => ext b k (prt b k)
theorem exl_len (q : Bg) (k n : Nat) : (exl q k n).length = n := by simp [exl]
theorem exl_next (q : Bg) (k n : Nat) : exl q k (n + 1) = exl q k n ++ [q.set k n] := by simp [exl, List.range_succ]
theorem ext_app (b : Bg) (k : Nat) (L M : List Bg) : ext b k (L ++ M) = ext b k L ++ ext b k M := by simp [ext]
theorem ext_one (b : Bg) (k : Nat) (q : Bg) : ext b k [q] = exl q k (b.get k + 1) := by simp [ext]
theorem ext_len (b : Bg) (k : Nat) : ∀ L : List Bg, (ext b k L).length = L.length * (b.get k + 1)
  | [] => by simp [ext]
  | q :: L => by
    have := ext_len b k L
    show (exl q k (b.get k + 1) ++ ext b k L).length = _
    rw [List.length_append, exl_len, this, List.length_cons, Nat.succ_mul]; omega
theorem prt_len {b : Bg} (hb : ∀ k, b.get k ≤ 12) : ∀ k, k ≤ 4 → 1 ≤ (prt b k).length ∧ (prt b k).length ≤ 13 ^ k
  | 0, _ => by simp [prt]
  | k + 1, h => by
    have ih := prt_len hb k (by omega)
    have h1 := hb k
    show 1 ≤ (ext b k (prt b k)).length ∧ _
    rw [show prt b (k + 1) = ext b k (prt b k) from rfl, ext_len]
    refine ⟨Nat.mul_le_mul ih.1 (show 1 ≤ b.get k + 1 by omega), ?_⟩
    have := Nat.mul_le_mul ih.2 (show b.get k + 1 ≤ 13 by omega)
    rwa [← Nat.pow_succ] at this
theorem prt_le {b : Bg} (hb : ∀ k, b.get k ≤ 12) {k : Nat} (hk : k ≤ 3) : (prt b k).length ≤ 2197 := by
  have h1 := (prt_len hb k (by omega)).2
  have h2 : 13 ^ k ≤ 13 ^ 3 := Nat.pow_le_pow_right (by omega) hk
  omega

theorem set_grown (w : World) (a : Addr) (v : Value) : w.grownBy (w.setCell a v) (some a.block) :=
  ⟨rfl, rfl, rfl, by simp, fun k _ hk => heap_setCell_other w a k v (fun e => hk (by simp [e]))⟩
theorem bagsLt {L : List Bg} {i : Nat} {q : Bg} (h : L[i]? = some q) : L.take (i + 1) = L.take i ++ [q] := by
  rw [List.take_add_one, h]; rfl

def PartsPost (b : Bg) (w : World) (e : Ending) (w' : World) : Prop :=
  Below w.heap.size w w' ∧ ∃ (v : Value), e = .returned v ∧ w'.ownsRow w.heap.size 92 4 v (prt b 4).length (bgc (prt b 4))

set_option maxRecDepth 100000 in
set_option maxHeartbeats 3000000 in
theorem parts_any (q0 : Bg) (w : World) (hq : ∀ k, q0.get k ≤ 12) :
    Calls Try.prog 102 #[.agg #[.int .i64 q0.a, .int .i64 q0.b, .int .i64 q0.c, .int .i64 q0.d]] w (PartsPost q0 w) := by
  obtain ⟨j0, hj, jz0, jz1, jz2⟩ := info_parts info92
  obtain ⟨W, hW, hb, hs, x0⟩ := boxes1 w #[.int .i64 q0.a, .int .i64 q0.b, .int .i64 q0.c, .int .i64 q0.d] 92
  have y : (W.alloc (.cells #[.int .i64 0, .int .i64 0, .int .i64 0, .int .i64 0] 92)).ownsRow w.heap.size 92 4 (.slice (some ⟨W.heap.size, 0, none⟩) 1 1) 1 (bgc (prt q0 0)) := World.ownsRow_lit W #[.int .i64 0, .int .i64 0, .int .i64 0, .int .i64 0] 1 hb.size (by unfold maxLen; omega) rfl
  have hb1 := below_one (w := W) (.cells #[.int .i64 0, .int .i64 0, .int .i64 0, .int .i64 0] 92)
  replace x0 := x0.below hb1
  replace hb := hb.trans (hb1.mono hb.size)
  clear hb1 hs
  have c0 := x0.cell 0 rfl; have c1 := x0.cell 1 rfl; have c2 := x0.cell 2 rfl; have c3 := x0.cell 3 rfl
  go_enter Try.func102, Try.ntmps102
  go_wp2
  clear hW c0 c1 c2 c3 x0
  generalize W.alloc _ = W1 at *
  go_loopw [3, 13] (fun v3 v13 wr => ∃ (k : Nat), k ≤ 4 ∧ v13 = .int .i64 (k : Int) ∧ wr.ownsRow w.heap.size 92 4 v3 (prt q0 k).length (bgc (prt q0 k)) ∧ Below w.heap.size w wr) (fun _ v13 _ => 4 - (intOf v13).toNat)
  case atStart => exact ⟨0, Nat.zero_le _, rfl, y, hb⟩
  case round =>
    clear y hb
    obtain ⟨k, hk, rfl, hown, hb⟩ := hrel
    obtain ⟨wo, rfl⟩ : ∃ wo : World, wo = wr := ⟨_, rfl⟩
    by_cases hlt : k < 4
    · have hix := bag_index q0 hlt
      have hqk := hq k
      have hpl := prt_le hq (show k ≤ 3 by omega)
      have hp1 := (prt_len hq k (by omega)).1
      have hS : prt q0 (k + 1) = ext q0 k (prt q0 k) := rfl
      have HS := hid hS
      obtain ⟨L, hL⟩ : ∃ x, x = prt q0 k := ⟨_, rfl⟩
      rw [← hL] at hown hpl hp1 HS
      obtain ⟨n, hn⟩ : ∃ x, x = q0.get k := ⟨_, rfl⟩
      rw [← hn] at hix hqk
      have Hn := hid hn
      obtain ⟨m, hm⟩ : ∃ x, x = L.length := ⟨_, rfl⟩
      rw [← hm] at hown hpl hp1
      have Hm := hid hm
      clear hS hL hn hm
      obtain ⟨g, cap, rfl⟩ := Go.Joins.ownsRow_form hown (by omega)
      have hltI : (k : Int) < 4 := by omega
      go_wp2
      go_loopw [6, 19] (fun v6 v19 wi => ∃ i, i ≤ m ∧ v19 = .int .i64 (i : Int) ∧ wi.ownsRow wo.heap.size 92 4 v6 (ext q0 k (L.take i)).length (bgc (ext q0 k (L.take i))) ∧ Below wo.heap.size wo wi) (fun _ v19 _ => m - (intOf v19).toNat)
      case atStart => exact ⟨0, Nat.zero_le _, rfl, World.ownsRow_nil _ _ _ _, Below.refl _ _⟩
      case round =>
        obtain ⟨i, hi, rfl, hown6, hb6⟩ := hrel
        obtain ⟨wi, rfl⟩ : ∃ x : World, x = wr := ⟨_, rfl⟩
        have hown3 := own_below2 hown hb6
        obtain ⟨p6, hp6⟩ : ∃ x, x = (ext q0 k (L.take i)).length := ⟨_, rfl⟩
        rw [← hp6] at hown6
        have hp6b : p6 ≤ 2197 * 13 := by
          rw [hp6, ext_len, ← Hn.out]
          exact Nat.mul_le_mul (by rw [List.length_take]; omega) (by omega)
        have Hp6 := hid hp6; clear hp6
        by_cases hil : i < m
        · obtain ⟨q, hq1⟩ : ∃ q, L[i]? = some q := ⟨L[i]'(by rw [← Hm.out]; exact hil), List.getElem?_eq_getElem _⟩
          have hc := bgc_at L i q hq1
          have z0 := hown3.cellAt (i * 4) (by omega)
          have z1 := hown3.cellAt (i * 4 + 1) (by omega)
          have z2 := hown3.cellAt (i * 4 + 2) (by omega)
          have z3 := hown3.cellAt (i * 4 + 3) (by omega)
          rw [hc.1] at z0; rw [hc.2.1] at z1; rw [hc.2.2.1] at z2; rw [hc.2.2.2] at z3
          have Htk := hid (bagsLt hq1)
          clear hc hq1
          have hilI : (i : Int) < (m : Int) := by omega
          go_wp2
          obtain ⟨W8, hW8, hb8, hs8, x8⟩ := boxes1 wi #[.int .i64 q.a, .int .i64 q.b, .int .i64 q.c, .int .i64 q.d] 92
          rw [hW8]
          clear hW8 z0 z1 z2 z3 hown3
          go_loopw [6, 25] (fun v6 v25 wj => ∃ l, l ≤ n + 1 ∧ v25 = .int .i64 (l : Int) ∧ wj.ownsRow wo.heap.size 92 4 v6 (p6 + l) (bgc (ext q0 k (L.take i) ++ exl q k l)) ∧ Below wo.heap.size wo wj ∧ v6.ownBlock ≠ some wi.heap.size ∧ ∃ q' : Bg, Bx wj wi.heap.size q'.vs 92 ∧ ∀ v, q'.set k v = q.set k v) (fun _ v25 _ => n + 1 - (intOf v25).toNat)
          case atStart => exact ⟨0, Nat.zero_le _, rfl, by simpa [exl] using own_below2 hown6 hb8, hb6.trans (hb8.mono hb6.size), fun h => by have := (hown6.lt _ h).2; omega, q, x8, fun _ => rfl⟩
          case round =>
            clear x8 hb8 hs8
            obtain ⟨l, hl, rfl, hownj, hbj, hne, q', xq, hqs⟩ := hrel
            obtain ⟨wj, rfl⟩ : ∃ x : World, x = wr := ⟨_, rfl⟩
            obtain ⟨p, hp⟩ : ∃ x, x = p6 + l := ⟨_, rfl⟩
            rw [← hp] at hownj
            have hpb : p ≤ 2197 * 13 + 13 := by omega
            have Hp := hid hp; clear hp
            have hg8 : wo.heap.size ≤ wi.heap.size := hb6.size
            by_cases hll : l < n + 1
            · have i1 : (l : Int) < (n : Int) + 1 := by omega
              have fr := xq.free k
              have ck := xq.cell k (Bg.vs_at q' hlt)
              go_upto_region 13 with fail
              have x9 := xq.set k (.int .i64 (l : Nat))
              rw [Bg.vs_set _ hlt, hqs] at x9
              have hown9 := hownj.kept (set_grown wj ⟨wi.heap.size, k, none⟩ (.int .i64 (l : Nat))) (.inr hne)
              have hb9 := hbj.setCell (show wo.heap.size ≤ (⟨wi.heap.size, k, none⟩ : Addr).block from hg8) (.int .i64 (l : Nat))
              generalize wj.setCell _ _ = W9 at *
              clear xq hownj hbj fr ck hqs
              obtain ⟨qn, hqn⟩ : ∃ x, x = q.set k l := ⟨_, rfl⟩
              rw [← hqn] at x9
              have Hqn := hid hqn; clear hqn
              have c0 := x9.cell 0 rfl; have c1 := x9.cell 1 rfl; have c2 := x9.cell 2 rfl; have c3 := x9.cell 3 rfl
              have hb1 := below_one (w := W9) (.cells #[.int .i64 qn.a, .int .i64 qn.b, .int .i64 qn.c, .int .i64 qn.d] 92)
              have hown1 := own_below2 hown9 hb1
              have hnew := Cls.of_bx (Bx.new W9 #[.int .i64 qn.a, .int .i64 qn.b, .int .i64 qn.c, .int .i64 qn.d] 92)
              have hsz9 := hb9.size
              go_wp2_with (at_builtin; refine wpList_appAt rfl (.tmp 31) (.tmp 33) 122 rfl wo.heap.size 92 j0 (.agg #[.int .i64 0, .int .i64 0, .int .i64 0, .int .i64 0]) 4 32 under122 hj jz0 jz1 jz2 rfl (by decide) _ p _ rfl hown1 (some ⟨W9.heap.size, 0, none⟩) 1 1 [.int .i64 qn.a, .int .i64 qn.b, .int .i64 qn.c, .int .i64 qn.d] rfl rfl hnew (bgc_one [qn]) (by unfold maxLen; omega) (by omega) (by simp; omega) ?_; intro v1 Y2 hown2 hg hat)
              have hge := fun k hk => (hown1.lt k hk).1
              have x10 := (x9.below hb1).gb hg (fun k hk e => hne (e ▸ hk))
              have hb10 : Below wo.heap.size wo Y2 := (hb9.trans (hb1.mono hb9.size)).grown hg (by simp; omega) (fun k hk => hge k hk)
              have lx := x9.lt
              have hne2 : v1.ownBlock ≠ some wi.heap.size := fun h => by
                rcases hat with h' | h'
                · exact hne (h' ▸ h)
                · rw [h'] at h; simp at h; omega
              clear hown1 hown9 hnew hg hat hge hb9 hb1 c0 c1 c2 c3 x9 hne
              go_wp2
              go_roundw
              case rel => exact ⟨l + 1, by omega, by go_num, by rw [exl_next, ← Hqn.out, ← List.append_assoc, bgc_app, ← Nat.add_assoc, ← Hp.out]; exact hown2, hb10, hne2, qn, x10, fun v => by rw [Hqn.out, Bg.get_set]⟩
              case measure => simp [intOf]; omega
            · have i1 : (n : Int) + 1 ≤ (l : Int) := by omega
              have hnx : ext q0 k (L.take i) ++ exl q k l = ext q0 k (L.take (i + 1)) := by
                rw [Htk.out, ext_app, ext_one, ← Hn.out, show l = n + 1 by omega]
              have hpx : p = (ext q0 k (L.take (i + 1))).length := by rw [← hnx, List.length_append, exl_len, ← Hp6.out, Hp.out]
              rw [hnx] at hownj
              clear hnx
              go_wp2
              go_roundw
              case rel => exact ⟨i + 1, by omega, by go_num, by rw [← hpx]; exact hownj, hbj⟩
              case measure => simp [intOf]; omega
        · have hilI : (m : Int) ≤ (i : Int) := by omega
          have hnx : ext q0 k (L.take i) = prt q0 (k + 1) := by rw [List.take_of_length_le (by rw [← Hm.out]; omega), HS.out]
          have hpx : p6 = (prt q0 (k + 1)).length := by rw [← hnx]; exact Hp6.out
          rw [hnx] at hown6
          clear hnx
          go_wp2
          go_roundw
          case rel => exact ⟨k + 1, by omega, by go_num, by rw [← hpx]; exact Go.Joins.ownsRow_le hown6 hb.size, hb.trans (hb6.mono hb.size)⟩
          case measure => simp [intOf]; omega
    · have hk4 : (4 : Int) ≤ (k : Int) := by omega
      go_wp2
      go_ret
      obtain rfl : k = 4 := by omega
      exact ⟨hb, _, rfl, hown⟩
end Go.Proofs.Ytmkmnedojgigoaa
