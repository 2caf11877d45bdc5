import Derived.Test.YtmkmnedojgigoaaM1
import Derived.Test.YtmkmnedojgigoaaL2
import Derived.Test.YtmkmnedojgigoaaR1
import Derived.Lib.SmallJoins
namespace Go.Proofs.Ytmkmnedojgigoaa
open Go.RowKit

/-- A bag: so many coins of each kind. -/
structure Bg where
  a : Nat
  b : Nat
  c : Nat
  d : Nat
def Bg.get (q : Bg) : Nat → Nat
  | 0 => q.a
  | 1 => q.b
  | 2 => q.c
  | _ => q.d
def Bg.set (q : Bg) (k v : Nat) : Bg :=
  match k with
  | 0 => { q with a := v }
  | 1 => { q with b := v }
  | 2 => { q with c := v }
  | _ => { q with d := v }
def Bg.vs (q : Bg) : Array Value := #[.int .i64 q.a, .int .i64 q.b, .int .i64 q.c, .int .i64 q.d]
def bgc (L : List Bg) : List Value := L.flatMap fun q => [.int .i64 q.a, .int .i64 q.b, .int .i64 q.c, .int .i64 q.d]
theorem bgc_len : ∀ L : List Bg, (bgc L).length = L.length * 4
  | [] => rfl
  | q :: L => by
    have := bgc_len L
    show (_ :: _ :: _ :: _ :: bgc L).length = _
    simp only [List.length_cons, this]; omega
theorem bgc_app (L M : List Bg) : bgc (L ++ M) = bgc L ++ bgc M := by simp [bgc]
theorem bgc_at : ∀ (L : List Bg) (i : Nat) (q : Bg), L[i]? = some q →
    (bgc L)[i * 4]? = some (.int .i64 q.a) ∧ (bgc L)[i * 4 + 1]? = some (.int .i64 q.b) ∧ (bgc L)[i * 4 + 2]? = some (.int .i64 q.c) ∧ (bgc L)[i * 4 + 3]? = some (.int .i64 q.d)
  | [], i, q, h => by simp at h
  | p :: L, 0, q, h => by
    have : p = q := by simpa using h
    subst this
    exact ⟨rfl, rfl, rfl, rfl⟩
  | p :: L, i + 1, q, h => by
    have ih := bgc_at L i q (by simpa using h)
    have e : ∀ j, (bgc (p :: L))[(i + 1) * 4 + j]? = (bgc L)[i * 4 + j]? := fun j => by
      show (_ :: _ :: _ :: _ :: bgc L)[(i + 1) * 4 + j]? = _
      rw [show (i + 1) * 4 + j = i * 4 + j + 1 + 1 + 1 + 1 by omega]
      simp only [List.getElem?_cons_succ]
    exact ⟨by rw [← Nat.add_zero ((i + 1) * 4), e]; exact ih.1, by rw [e]; exact ih.2.1, by rw [e]; exact ih.2.2.1, by rw [e]; exact ih.2.2.2⟩
theorem bgc_one (L : List Bg) : ∀ u ∈ bgc L, u.oneCell' = true := fun u hu => by
  simp only [bgc, List.mem_flatMap] at hu
  obtain ⟨q, _, h⟩ := hu
  simp only [List.mem_cons, List.not_mem_nil, or_false] at h
  rcases h with rfl | rfl | rfl | rfl <;> rfl
theorem Bg.get_set (q : Bg) (k v u : Nat) : (q.set k v).set k u = q.set k u := by
  match k with
  | 0 => rfl
  | 1 => rfl
  | 2 => rfl
  | _ + 3 => rfl
theorem Bg.vs_at (q : Bg) {k : Nat} (hk : k < 4) : q.vs[k]? = some (.int .i64 (q.get k : Nat)) := by
  match k, hk with
  | 0, _ => rfl
  | 1, _ => rfl
  | 2, _ => rfl
  | 3, _ => rfl
theorem Bg.vs_set (q : Bg) {k : Nat} (hk : k < 4) (v : Nat) : q.vs.setIfInBounds k (.int .i64 (v : Nat)) = (q.set k v).vs := by
  match k, hk with
  | 0, _ => rfl
  | 1, _ => rfl
  | 2, _ => rfl
  | 3, _ => rfl
theorem bag_index0 (a b c d : Nat) (w : World) : (Instr.index 92 (.agg #[.int .i64 a, .int .i64 b, .int .i64 c, .int .i64 d]) (.int .i64 (0 : Nat))).run Try.prog w = .ok (.int .i64 (a : Nat)) w := by kernel_rfl
theorem bag_index1 (a b c d : Nat) (w : World) : (Instr.index 92 (.agg #[.int .i64 a, .int .i64 b, .int .i64 c, .int .i64 d]) (.int .i64 (1 : Nat))).run Try.prog w = .ok (.int .i64 (b : Nat)) w := by kernel_rfl
theorem bag_index2 (a b c d : Nat) (w : World) : (Instr.index 92 (.agg #[.int .i64 a, .int .i64 b, .int .i64 c, .int .i64 d]) (.int .i64 (2 : Nat))).run Try.prog w = .ok (.int .i64 (c : Nat)) w := by kernel_rfl
theorem bag_index3 (a b c d : Nat) (w : World) : (Instr.index 92 (.agg #[.int .i64 a, .int .i64 b, .int .i64 c, .int .i64 d]) (.int .i64 (3 : Nat))).run Try.prog w = .ok (.int .i64 (d : Nat)) w := by kernel_rfl
theorem bag_index (q : Bg) {k : Nat} (hk : k < 4) (w : World) : (Instr.index 92 (.agg #[.int .i64 q.a, .int .i64 q.b, .int .i64 q.c, .int .i64 q.d]) (.int .i64 (k : Nat))).run Try.prog w = .ok (.int .i64 (q.get k : Nat)) w := by
  have h : k = 0 ∨ k = 1 ∨ k = 2 ∨ k = 3 := by omega
  rcases h with rfl | rfl | rfl | rfl
  · exact bag_index0 q.a q.b q.c q.d w
  · exact bag_index1 q.a q.b q.c q.d w
  · exact bag_index2 q.a q.b q.c q.d w
  · exact bag_index3 q.a q.b q.c q.d w
theorem under122 : Try.prog.underlying 122 = some (.slice 92) := by kernel_rfl
theorem info92 : (Try.prog.info? 92).map (fun i => (i.zero, i.size, i.bytes)) = some (some (.agg #[.int .i64 0, .int .i64 0, .int .i64 0, .int .i64 0]), 4, 32) := by kernel_rfl

/-- The worth of the first k kinds of a bag. -/
def bws (C : List Int) (q : Bg) : Nat → Nat
  | 0 => 0
  | k + 1 => bws C q k + q.get k * cw C k
theorem bws_le {R : Nat} {N C : List Int} (hv : Vw R N C) {q : Bg} (hq : ∀ k, q.get k ≤ 12) : ∀ k, k ≤ C.length → bws C q k ≤ 1200 * k
  | 0, _ => Nat.le_refl _
  | k + 1, h => by
    have ih := bws_le hv hq k (by omega)
    have h1 := (hv.coin (k := k) (by omega)).2
    have h3 := Nat.mul_le_mul (hq k) h1.2
    unfold bws
    omega
theorem bws_all {R : Nat} {N C : List Int} (hv : Vw R N C) (q : Bg) : bws C q C.length = q.a * cw C 0 + q.b * cw C 1 + q.c * cw C 2 + q.d * cw C 3 := by
  have h4 := hv.c4
  have hz : ∀ k, C.length ≤ k → cw C k = 0 := fun k h => by simp [cw, List.getD, List.getElem?_eq_none h]
  obtain ⟨n, hn⟩ : ∃ n, n = C.length := ⟨_, rfl⟩
  rw [← hn] at h4 hz ⊢
  match n, h4 with
  | 0, _ => simp [bws, hz]
  | 1, _ => simp [bws, hz, Bg.get]
  | 2, _ => simp [bws, hz, Bg.get]
  | 3, _ => simp [bws, hz, Bg.get]
  | 4, _ => simp [bws, Bg.get]

set_option maxRecDepth 100000 in
set_option maxHeartbeats 1000000 in
theorem cents_any (R : Nat) (an ac ap : Option Addr) (cn cc cp : Nat) (N C P : List Int) (q : Bg) (w : World) (hk : Wk w R an ac ap N C P) (hq : ∀ k, q.get k ≤ 12) :
    Calls Try.prog 101 #[.agg #[.int .i64 (R : Int), .slice an N.length cn, .slice ac C.length cc, .slice ap P.length cp], .agg #[.int .i64 q.a, .int .i64 q.b, .int .i64 q.c, .int .i64 q.d]] w fun e w' => e = .returned (.int .i64 (bws C q C.length : Nat)) ∧ Below w.heap.size w w' := by
  have hv := hk.v
  have c4 := hv.c4
  have hC0 := hk.hC
  obtain ⟨W, hW, hb, hs, x0, x1⟩ := boxes2 w #[.int .i64 (R : Int), .slice an N.length cn, .slice ac C.length cc, .slice ap P.length cp] 73 #[.int .i64 q.a, .int .i64 q.b, .int .i64 q.c, .int .i64 q.d] 92
  clear hs
  replace hC0 := hC0.below hb (Nat.le_refl _)
  have c0 := x0.cell 0 rfl; have c1 := x0.cell 1 rfl; have c2 := x0.cell 2 rfl; have c3 := x0.cell 3 rfl
  go_enter Try.func101, Try.ntmps101
  go_wp2
  clear hW
  go_loopw [5, 12] (fun s5 s12 wr => ∃ (k : Nat), k ≤ C.length ∧ s12 = .int .i64 k ∧ s5 = .int .i64 (bws C q k : Nat) ∧ Qd W wr) (fun _ s12 _ => C.length - (intOf s12).toNat)
  case atStart => exact ⟨0, Nat.zero_le _, rfl, rfl, Qd.refl _⟩
  case round =>
    obtain ⟨k, hk', rfl, rfl, hqd⟩ := hrel
    have hb1 := hqd.below W.heap.size
    replace hC0 := hC0.below hb1 (Nat.le_refl _)
    replace x1 := x1.below hb1
    by_cases hlt : k < C.length
    · obtain ⟨ba, off, y, rfl, hbs, hc, _, _, hy, _⟩ := hC0.at hlt
      have hco := hv.coin hlt
      have hye : y = (cw C k : Int) := by have := hy.out; rw [hco.1] at this; simpa using this.symm
      subst hye
      have h1 := hco.2
      have hp := bws_le hv hq k (by omega)
      have z0 := x1.cell k (Bg.vs_at q (by omega))
      have hq12 := hq k
      have hS : bws C q (k + 1) = bws C q k + q.get k * cw C k := rfl
      obtain ⟨n, hne⟩ : ∃ n, n = q.get k := ⟨_, rfl⟩
      rw [← hne] at z0 hq12 hS
      obtain ⟨v, hve⟩ : ∃ v, v = cw C k := ⟨_, rfl⟩
      rw [← hve] at hc h1 hS
      have hm1 : n * v ≤ 12 * 100 := Nat.mul_le_mul hq12 h1.2
      obtain ⟨p, hpe⟩ : ∃ p, p = bws C q k := ⟨_, rfl⟩
      rw [← hpe] at hp hS ⊢
      obtain ⟨u, hu⟩ : ∃ u, u = n * v := ⟨_, rfl⟩
      have huI : (n : Int) * (v : Int) = (u : Int) := by rw [hu]; simp
      rw [← hu] at hm1 hS
      have HS := hid hS
      clear hco hy hve hne hS hpe hu
      have hkI : (k : Int) < (C.length : Int) := by omega
      have hk0 : (0 : Int) ≤ (k : Int) := by omega
      have hk4 : (k : Int) < 4 := by omega
      have f1 : IntKind.i64.wrap (u : Int) = (u : Int) := IntWalk.i64_in _ (by omega)
      have f2 : IntKind.i64.wrap ((p : Int) + (u : Int)) = (p : Int) + (u : Int) := IntWalk.i64_in _ (by omega)
      go_wp2
      go_roundw
      case rel => exact ⟨k + 1, by omega, by go_num, by rw [HS.out]; go_num, hqd⟩
      case measure => simp [intOf]; omega
    · have he : k = C.length := by omega
      subst he
      go_wp2
      go_ret
      exact ⟨rfl, hb.trans (hb1.mono hb.size)⟩
end Go.Proofs.Ytmkmnedojgigoaa
