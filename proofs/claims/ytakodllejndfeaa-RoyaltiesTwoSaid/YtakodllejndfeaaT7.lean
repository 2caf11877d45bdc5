import Derived.Test.YtakodllejndfeaaT6
import Derived.Sort.WalkA
import Derived.Deep.LoopGhost
import Derived.Laws.EntriesVeiled
/-! All writers by the rests of their parts. -/
namespace Go.Proofs.Ytakodllejndfeaa
set_option linter.unusedSimpArgs false
set_option linter.unusedVariables false
open Go Go.RowKit

def cmpV (P : Int) (E : List Int) (A a b : Int) : Int := orI (cmpI (rsV P E A b) (rsV P E A a)) (cmpI a b)
theorem cmpV_lt (P : Int) (E : List Int) (A a b : Int) : decide (cmpV P E A a b < 0) = ltV P E A a b := by
  unfold cmpV orI cmpI ltV
  generalize rsV P E A b = rb
  generalize rsV P E A a = ra
  rcases Int.lt_trichotomy rb ra with h | h | h
  · simp [h]
  · subst h
    by_cases h1 : a < b
    · simp [h1]
    · by_cases h2 : b < a
      · simp [h1, h2]
      · simp [h1, h2]
  · have h1 : ¬ rb < ra := by omega
    have h2 : ¬ ra = rb := by omega
    simp [h, h1, h2]

set_option maxRecDepth 100000 in
set_option maxHeartbeats 4000000 in
theorem closure_any (g n b1 b2 : Nat) (P : Int) (E : List Int) (A : Int) (a b : Nat) (hQ : QOk P E A n) (ha : a < n) (hb' : b < n) (w : World) (x1 : Bx w b1 #[.slice (some ⟨g, 0, none⟩) n n, .int .i64 A] 66) (x2 : Bx w b2 #[.int .i64 P] 3) (y : Bx w g (vrow E) 3) :
    Calls Try.prog 70 #[.int .i64 (a : Int), .int .i64 (b : Int), .pointer (some ⟨b1, 0, none⟩), .pointer (some ⟨b2, 0, none⟩)] w fun e w' => e = .returned (.int .i64 (cmpV P E A a b)) ∧ Below w.heap.size w w' := by
  have hra := fun V h => rest_any g n P E A a hQ ha V h
  have hrb := fun V h => rest_any g n P E A b hQ hb' V h
  unfold cmpV
  clear hQ
  generalize rsV P E A a = ra at *
  generalize rsV P E A b = rb at *
  have hc1 := fun v => Compare_any rb ra v
  have hc2 := fun v => Compare_any a b v
  generalize cmpI rb ra = u at *
  generalize cmpI (a : Int) (b : Int) = v at *
  go_enter Try.func70, Try.ntmps70
  go_upto_region 1 with fail
  have hbd := (Below.refl w.heap.size w).drew
  have S0 := And.intro (x1.below hbd) (And.intro (x2.below hbd) (y.below hbd))
  have hb := hbd
  clear hbd x1 x2 y
  refine wp_region_head 14 (fun w' => Bx w' b1 #[.slice (some ⟨g, 0, none⟩) n n, .int .i64 A] 66 ∧ Bx w' b2 #[.int .i64 P] 3 ∧ Bx w' g (vrow E) 3) (by kernel_rfl) rfl ?_
  generalize w.drew = Y0 at *
  refine HeadAt.take (i := 0) (.agg #[.slice (some ⟨g, 0, none⟩) n n, .int .i64 A]) rfl (by kernel_rfl) (.inl ⟨rfl, fun w' z => ?_⟩) S0 ?_
  · (have z0 := z.1.cell 0 rfl; have z1 := z.1.cell 1 rfl; simp [go_sem, z0, z1])
  (try simp only [Act.put, List.getElem_toArray, List.getElem_cons_succ, List.getElem_cons_zero, List.setIfInBounds_toArray, List.set_cons_succ, List.set_cons_zero])
  refine HeadAt.take (i := 1) (.int .i64 P) rfl (by kernel_rfl) (.inl ⟨rfl, fun w' z => ?_⟩) S0 ?_
  · (have z0 := z.2.1.cell 0 rfl; simp [go_sem, z0])
  (try simp only [Act.put, List.getElem_toArray, List.getElem_cons_succ, List.getElem_cons_zero, List.setIfInBounds_toArray, List.set_cons_succ, List.set_cons_zero])
  refine HeadAt.take (i := 2) (.int .i64 (b : Int)) rfl (by kernel_rfl) (.inl ⟨rfl, fun _ _ => by simp [go_sem]⟩) S0 ?_
  (try simp only [Act.put, List.getElem_toArray, List.getElem_cons_succ, List.getElem_cons_zero, List.setIfInBounds_toArray, List.set_cons_succ, List.set_cons_zero])
  refine HeadAt.take (i := 4) (.agg #[.slice (some ⟨g, 0, none⟩) n n, .int .i64 A]) rfl (by kernel_rfl) (.inl ⟨rfl, fun w' z => ?_⟩) S0 ?_
  · (have z0 := z.1.cell 0 rfl; have z1 := z.1.cell 1 rfl; simp [go_sem, z0, z1])
  (try simp only [Act.put, List.getElem_toArray, List.getElem_cons_succ, List.getElem_cons_zero, List.setIfInBounds_toArray, List.set_cons_succ, List.set_cons_zero])
  refine HeadAt.take (i := 5) (.int .i64 P) rfl (by kernel_rfl) (.inl ⟨rfl, fun w' z => ?_⟩) S0 ?_
  · (have z0 := z.2.1.cell 0 rfl; simp [go_sem, z0])
  (try simp only [Act.put, List.getElem_toArray, List.getElem_cons_succ, List.getElem_cons_zero, List.setIfInBounds_toArray, List.set_cons_succ, List.set_cons_zero])
  refine HeadAt.take (i := 6) (.int .i64 (a : Int)) rfl (by kernel_rfl) (.inl ⟨rfl, fun _ _ => by simp [go_sem]⟩) S0 ?_
  (try simp only [Act.put, List.getElem_toArray, List.getElem_cons_succ, List.getElem_cons_zero, List.setIfInBounds_toArray, List.set_cons_succ, List.set_cons_zero])
  refine HeadAt.take (i := 9) (.int .i64 (a : Int)) rfl (by kernel_rfl) (.inl ⟨rfl, fun _ _ => by simp [go_sem]⟩) S0 ?_
  (try simp only [Act.put, List.getElem_toArray, List.getElem_cons_succ, List.getElem_cons_zero, List.setIfInBounds_toArray, List.set_cons_succ, List.set_cons_zero])
  refine HeadAt.take (i := 10) (.int .i64 (b : Int)) rfl (by kernel_rfl) (.inl ⟨rfl, fun _ _ => by simp [go_sem]⟩) S0 ?_
  (try simp only [Act.put, List.getElem_toArray, List.getElem_cons_succ, List.getElem_cons_zero, List.setIfInBounds_toArray, List.set_cons_succ, List.set_cons_zero])
  refine HeadAt.one (i := 3) rfl (by kernel_rfl) ?_
  generalize hK : Upto _ _ = K0
  (try simp only [Act.put, List.getElem_toArray, List.getElem_cons_succ, List.getElem_cons_zero, List.setIfInBounds_toArray, List.set_cons_succ, List.set_cons_zero])
  go_wp2_with fail
  refine (hrb _ S0.2.2).mono ?_
  rintro e V1 ⟨rfl, hb3⟩
  go_wp2_with fail
  replace S0 := And.intro (S0.1.below hb3) (And.intro (S0.2.1.below hb3) (S0.2.2.below hb3))
  replace hb := hb.trans (hb3.mono hb.size)
  clear hb3
  subst hK
  refine ⟨S0, ?_⟩
  (try simp only [Act.put, List.getElem_toArray, List.getElem_cons_succ, List.getElem_cons_zero, List.setIfInBounds_toArray, List.set_cons_succ, List.set_cons_zero])
  refine HeadAt.one (i := 7) rfl (by kernel_rfl) ?_
  generalize hK : Upto _ _ = K0
  (try simp only [Act.put, List.getElem_toArray, List.getElem_cons_succ, List.getElem_cons_zero, List.setIfInBounds_toArray, List.set_cons_succ, List.set_cons_zero])
  go_wp2_with fail
  refine (hra _ S0.2.2).mono ?_
  rintro e V2 ⟨rfl, hb3⟩
  go_wp2_with fail
  replace S0 := And.intro (S0.1.below hb3) (And.intro (S0.2.1.below hb3) (S0.2.2.below hb3))
  replace hb := hb.trans (hb3.mono hb.size)
  clear hb3
  subst hK
  refine ⟨S0, ?_⟩
  (try simp only [Act.put, List.getElem_toArray, List.getElem_cons_succ, List.getElem_cons_zero, List.setIfInBounds_toArray, List.set_cons_succ, List.set_cons_zero])
  refine HeadAt.one (i := 8) rfl (by kernel_rfl) ?_
  generalize hK : Upto _ _ = K0
  (try simp only [Act.put, List.getElem_toArray, List.getElem_cons_succ, List.getElem_cons_zero, List.setIfInBounds_toArray, List.set_cons_succ, List.set_cons_zero])
  go_wp2_with fail
  refine (hc1 _).mono ?_
  rintro e V3 ⟨rfl, rfl⟩
  go_wp2_with fail
  skip
  subst hK
  refine ⟨S0, ?_⟩
  (try simp only [Act.put, List.getElem_toArray, List.getElem_cons_succ, List.getElem_cons_zero, List.setIfInBounds_toArray, List.set_cons_succ, List.set_cons_zero])
  refine HeadAt.one (i := 11) rfl (by kernel_rfl) ?_
  generalize hK : Upto _ _ = K0
  (try simp only [Act.put, List.getElem_toArray, List.getElem_cons_succ, List.getElem_cons_zero, List.setIfInBounds_toArray, List.set_cons_succ, List.set_cons_zero])
  go_wp2_with fail
  refine (hc2 _).mono ?_
  rintro e V4 ⟨rfl, rfl⟩
  go_wp2_with fail
  skip
  subst hK
  refine ⟨S0, ?_⟩
  (try simp only [Act.put, List.getElem_toArray, List.getElem_cons_succ, List.getElem_cons_zero, List.setIfInBounds_toArray, List.set_cons_succ, List.set_cons_zero])
  refine HeadAt.one (i := 12) rfl (by kernel_rfl) ?_
  generalize hK : Upto _ _ = K0
  (try simp only [Act.put, List.getElem_toArray, List.getElem_cons_succ, List.getElem_cons_zero, List.setIfInBounds_toArray, List.set_cons_succ, List.set_cons_zero])
  have hba := below_one (w := V2) (.cells #[.int .i64 u, .int .i64 v] 3)
  have HY := hid (And.intro (And.intro (S0.1.below hba) (And.intro (S0.2.1.below hba) (S0.2.2.below hba))) (And.intro (hb.trans (hba.mono hb.size)) (Bx.new V2 #[.int .i64 u, .int .i64 v] 3)))
  clear hba S0 hb
  go_wp2_with fail
  obtain ⟨S0, hb, hnx⟩ := HY.out
  clear HY
  generalize V2.heap.size = gn at *
  generalize World.alloc _ _ = Y1 at *
  subst hK
  refine ⟨S0, ?_⟩
  (try simp only [Act.put, List.getElem_toArray, List.getElem_cons_succ, List.getElem_cons_zero, List.setIfInBounds_toArray, List.set_cons_succ, List.set_cons_zero])
  refine HeadAt.one (i := 13) rfl (by kernel_rfl) ?_
  generalize hK : Upto _ _ = K0
  (try simp only [Act.put, List.getElem_toArray, List.getElem_cons_succ, List.getElem_cons_zero, List.setIfInBounds_toArray, List.set_cons_succ, List.set_cons_zero])
  go_wp2_with fail
  refine (Or_any gn u v _ hnx).mono ?_
  rintro e V5 ⟨rfl, rfl⟩
  go_wp2_with fail
  skip
  subst hK
  refine ⟨S0, ?_⟩
  (try simp only [Act.put, List.getElem_toArray, List.getElem_cons_succ, List.getElem_cons_zero, List.setIfInBounds_toArray, List.set_cons_succ, List.set_cons_zero])
  refine HeadAt.done (by kernel_rfl) ?_
  (try simp only [Act.put, List.drop_succ_cons, List.drop_zero, List.getElem_toArray, List.getElem_cons_succ, List.getElem_cons_zero])
  go_wp2_with fail
  refine NoPanic.normal ?_
  go_wp2
  go_ret
  exact ⟨rfl, hb⟩

/-- Each number of a row is that of a writer. -/
def Rg (n : Nat) (d : Array Int) : Prop := ∀ x ∈ d.toList, 0 ≤ x ∧ x < (n : Int)
theorem Rg.at {n : Nat} {d : Array Int} (h : Rg n d) {i : Nat} (hi : i < d.size) : 0 ≤ d[i]! ∧ d[i]! < (n : Int) := by
  rw [getElem!_pos d i hi]
  exact h _ (by rw [Array.mem_toList_iff]; exact Array.getElem_mem hi)
theorem Rg.set {n : Nat} {d : Array Int} (h : Rg n d) (i : Nat) {x : Int} (hx : 0 ≤ x ∧ x < (n : Int)) : Rg n (d.setIfInBounds i x) := fun y hy => by
  rw [Array.toList_setIfInBounds] at hy
  rcases List.mem_or_eq_of_mem_set hy with h1 | h1
  · exact h y h1
  · rw [h1]; exact hx
theorem Rg.swp {n : Nat} {d : Array Int} (h : Rg n d) {i j : Nat} (hi : i < d.size) (hj : j < d.size) : Rg n (Go.Sort.swp d i j) := (h.set i (h.at hj)).set j (h.at hi)
theorem row_get {d : Array Int} {i : Nat} (hi : i < d.size) : d.toList[i]? = some d[i]! := by
  rw [getElem!_pos d i hi]; simp [hi]
theorem row_swp (d : Array Int) (i j : Nat) : vrow (Go.Sort.swp d i j).toList = ((vrow d.toList).setIfInBounds i (.int .i64 d[j]!)).setIfInBounds j (.int .i64 d[i]!) := by
  unfold Go.Sort.swp
  rw [vrow_set, vrow_set, Array.toList_setIfInBounds, Array.toList_setIfInBounds]

/-- The worlds in which only the row has changed. -/
structure RwW (w : World) (r : Nat) (d : Array Int) (wr : World) : Prop where
  gr : w.grownBy wr (some r)
  y : Bx wr r (vrow d.toList) 3
theorem RwW.below {w : World} {r : Nat} {d : Array Int} {wr w' : World} (h : RwW w r d wr) (hb : Below wr.heap.size wr w') : RwW w r d w' := ⟨h.gr.trans ⟨hb.os, hb.tape, hb.output, hb.size, fun k hk _ => hb.block k hk⟩, h.y.below hb⟩
theorem gsetR (w : World) (a : Addr) (v : Value) : w.grownBy (w.setCell a v) (some a.block) :=
  ⟨rfl, rfl, rfl, by simp [World.setCell], fun k _ hk => Below.heap_setCell _ _ _ _ (fun e => hk (by rw [e]))⟩
theorem RwW.swap {w : World} {r : Nat} {d : Array Int} {wr : World} (h : RwW w r d wr) (i j : Nat) : RwW w r (Go.Sort.swp d i j) ((wr.setCell ⟨r, i, none⟩ (.int .i64 d[j]!)).setCell ⟨r, j, none⟩ (.int .i64 d[i]!)) :=
  ⟨(h.gr.trans (gsetR wr ⟨r, i, none⟩ _)).trans (gsetR _ ⟨r, j, none⟩ _), by rw [row_swp]; exact (h.y.set i _).set j _⟩
open Go.Sort in
set_option maxRecDepth 100000 in
set_option maxHeartbeats 6000000 in
theorem ins_any (r n b1 b2 : Nat) (cf : Int → Int → Int) (d : Array Int) (w : World) (hd : d.size = n) (hn : n ≤ 6) (y : Bx w r (vrow d.toList) 3) (hR : Rg n d)
    (hf : ∀ (V : World) (a b : Nat), w.grownBy V (some r) → a < n → b < n → Calls Try.prog 70 #[.int .i64 (a : Int), .int .i64 (b : Int), .pointer (some ⟨b1, 0, none⟩), .pointer (some ⟨b2, 0, none⟩)] V fun e w' => e = .returned (.int .i64 (cf a b)) ∧ Below V.heap.size V w') :
    Calls Try.prog 77 #[.slice (some ⟨r, 0, none⟩) n n, .int .i64 0, .int .i64 (n : Int), .func (.func 70) #[] #[.pointer (some ⟨b1, 0, none⟩), .pointer (some ⟨b2, 0, none⟩)]] w fun e w' => e = .returned (.tuple #[]) ∧ RwW w r (insertionSort (fun a b => decide (cf a b < 0)) d 0 n) w' := by
  obtain ⟨lt, hlt0⟩ : ∃ lt : Int → Int → Bool, lt = fun a b => decide (cf a b < 0) := ⟨_, rfl⟩
  rw [← hlt0]
  have HLT := hid hlt0
  have HF := hid hf
  have E0 : RwW w r d w := ⟨World.grownBy.refl w _, y⟩
  have hnI : (n : Int) ≤ 6 := by omega
  clear hlt0 hf y
  go_enter Try.func77, Try.ntmps77
  go_wp2
  go_loopg [8] n (fun g1 vi wr => ∃ (i : Nat) (dk : Array Int), vi = .int .i64 (i : Int) ∧ 0 < i ∧ i ≤ n + 1 ∧ n + 1 - i ≤ g1 + 1 ∧ dk.size = n ∧ RwW w r dk wr ∧ Rg n dk ∧ Hid (insOuter lt 0 n i dk = insOuter lt 0 n 1 d))
  case atStart => exact ⟨1, d, rfl, by omega, by omega, by omega, hd, E0, hR, hid rfl⟩
  case round =>
    clear E0 hR
    obtain ⟨i, dk, rfl, hi0, hin, hg1, hsk, E, hR, HO⟩ := hrel
    by_cases hlt : i < n
    · have hltz : (i : Int) < (n : Int) := by omega
      go_wp2
      go_loopg [9] i (fun g2 vj wr => ∃ (j : Nat) (dj : Array Int), vj = .int .i64 (j : Int) ∧ j ≤ i ∧ j ≤ g2 ∧ dj.size = n ∧ RwW w r dj wr ∧ Rg n dj ∧ Hid (insInner lt 0 j dj = insInner lt 0 i dk))
      case atStart => exact ⟨i, dk, rfl, Nat.le_refl _, Nat.le_refl _, hsk, E, hR, hid rfl⟩
      case round =>
        clear E hR
        obtain ⟨j, dj, rfl, hji, hg2, hsj, E, hR, HI⟩ := hrel
        have out : (j ≤ 0 ∨ lt dj[j]! dj[j - 1]! = false) → insOuter lt 0 n (i + 1) dj = insOuter lt 0 n 1 d := fun hs => by
          rw [← HO.out, insOuter_go _ _ _ _ _ hlt, ← HI.out, insInner_stop _ _ _ _ hs]
        have OUT := hid out
        clear out
        rcases j with _ | jp
        · -- the beginning
          have hbd := (Below.refl wr.heap.size wr).drew
          replace E := E.below hbd
          clear hbd
          go_upto_region 4 with fail
          refine wp_region_head 16 (fun _ => True) (by kernel_rfl) rfl ?_
          generalize wr.drew = Y0 at *
          have S0 : True := trivial
          refine HeadAt.take (i := 0) (.int .i64 (0 : Nat)) rfl (by kernel_rfl) (.inl ⟨rfl, fun _ _ => by simp [go_sem]⟩) S0 ?_
          (try simp only [Act.put, List.getElem_toArray, List.getElem_cons_succ, List.getElem_cons_zero, List.setIfInBounds_toArray, List.set_cons_succ, List.set_cons_zero])
          refine HeadAt.take (i := 1) (.int .i64 0) rfl (by kernel_rfl) (.inl ⟨rfl, fun _ _ => by simp [go_sem]⟩) S0 ?_
          (try simp only [Act.put, List.getElem_toArray, List.getElem_cons_succ, List.getElem_cons_zero, List.setIfInBounds_toArray, List.set_cons_succ, List.set_cons_zero])
          refine HeadAt.take (i := 2) (.bool false) rfl (by kernel_rfl) (.inl ⟨rfl, fun _ _ => by simp [go_sem]⟩) S0 ?_
          (try simp only [Act.put, List.getElem_toArray, List.getElem_cons_succ, List.getElem_cons_zero, List.setIfInBounds_toArray, List.set_cons_succ, List.set_cons_zero])
          refine HeadAt.take (i := 3) (.bool false) rfl (by kernel_rfl) (.inl ⟨rfl, fun _ _ => by simp [go_sem]⟩) S0 ?_
          (try simp only [Act.put, List.getElem_toArray, List.getElem_cons_succ, List.getElem_cons_zero, List.setIfInBounds_toArray, List.set_cons_succ, List.set_cons_zero])
          refine HeadAt.take (i := 4) undef rfl (by kernel_rfl) (.inr ⟨by kernel_rfl, rfl⟩) S0 ?_
          (try simp only [Act.put, List.getElem_toArray, List.getElem_cons_succ, List.getElem_cons_zero, List.setIfInBounds_toArray, List.set_cons_succ, List.set_cons_zero])
          refine HeadAt.take (i := 5) undef rfl (by kernel_rfl) (.inr ⟨by kernel_rfl, rfl⟩) S0 ?_
          (try simp only [Act.put, List.getElem_toArray, List.getElem_cons_succ, List.getElem_cons_zero, List.setIfInBounds_toArray, List.set_cons_succ, List.set_cons_zero])
          refine HeadAt.take (i := 6) undef rfl (by kernel_rfl) (.inr ⟨by kernel_rfl, rfl⟩) S0 ?_
          (try simp only [Act.put, List.getElem_toArray, List.getElem_cons_succ, List.getElem_cons_zero, List.setIfInBounds_toArray, List.set_cons_succ, List.set_cons_zero])
          refine HeadAt.take (i := 7) undef rfl (by kernel_rfl) (.inr ⟨by kernel_rfl, rfl⟩) S0 ?_
          (try simp only [Act.put, List.getElem_toArray, List.getElem_cons_succ, List.getElem_cons_zero, List.setIfInBounds_toArray, List.set_cons_succ, List.set_cons_zero])
          refine HeadAt.take (i := 8) undef rfl (by kernel_rfl) (.inr ⟨by kernel_rfl, rfl⟩) S0 ?_
          (try simp only [Act.put, List.getElem_toArray, List.getElem_cons_succ, List.getElem_cons_zero, List.setIfInBounds_toArray, List.set_cons_succ, List.set_cons_zero])
          refine HeadAt.take (i := 9) undef rfl (by kernel_rfl) (.inr ⟨by kernel_rfl, rfl⟩) S0 ?_
          (try simp only [Act.put, List.getElem_toArray, List.getElem_cons_succ, List.getElem_cons_zero, List.setIfInBounds_toArray, List.set_cons_succ, List.set_cons_zero])
          refine HeadAt.take (i := 10) undef rfl (by kernel_rfl) (.inr ⟨by kernel_rfl, rfl⟩) S0 ?_
          (try simp only [Act.put, List.getElem_toArray, List.getElem_cons_succ, List.getElem_cons_zero, List.setIfInBounds_toArray, List.set_cons_succ, List.set_cons_zero])
          refine HeadAt.take (i := 11) undef rfl (by kernel_rfl) (.inr ⟨by kernel_rfl, rfl⟩) S0 ?_
          (try simp only [Act.put, List.getElem_toArray, List.getElem_cons_succ, List.getElem_cons_zero, List.setIfInBounds_toArray, List.set_cons_succ, List.set_cons_zero])
          refine HeadAt.take (i := 12) undef rfl (by kernel_rfl) (.inr ⟨by kernel_rfl, rfl⟩) S0 ?_
          (try simp only [Act.put, List.getElem_toArray, List.getElem_cons_succ, List.getElem_cons_zero, List.setIfInBounds_toArray, List.set_cons_succ, List.set_cons_zero])
          refine HeadAt.take (i := 13) undef rfl (by kernel_rfl) (.inr ⟨by kernel_rfl, rfl⟩) S0 ?_
          (try simp only [Act.put, List.getElem_toArray, List.getElem_cons_succ, List.getElem_cons_zero, List.setIfInBounds_toArray, List.set_cons_succ, List.set_cons_zero])
          refine HeadAt.take (i := 14) undef rfl (by kernel_rfl) (.inr ⟨by kernel_rfl, rfl⟩) S0 ?_
          (try simp only [Act.put, List.getElem_toArray, List.getElem_cons_succ, List.getElem_cons_zero, List.setIfInBounds_toArray, List.set_cons_succ, List.set_cons_zero])
          refine HeadAt.take (i := 15) undef rfl (by kernel_rfl) (.inr ⟨by kernel_rfl, rfl⟩) S0 ?_
          (try simp only [Act.put, List.getElem_toArray, List.getElem_cons_succ, List.getElem_cons_zero, List.setIfInBounds_toArray, List.set_cons_succ, List.set_cons_zero])
          refine HeadAt.done (by kernel_rfl) ?_
          (try simp only [Act.put, List.drop_succ_cons, List.drop_zero, List.getElem_toArray, List.getElem_cons_succ, List.getElem_cons_zero])
          go_wp2_with fail
          refine NoPanic.normal ?_
          go_wp2
          go_roundg (n - (i + 1))
          case measure => omega
          case rel => exact ⟨i + 1, dj, by go_num, by omega, by omega, by omega, hsj, E, hR, hid (OUT.out (.inl (Nat.le_refl _)))⟩
        · obtain ⟨X, hX⟩ : ∃ X, X = dj[jp + 1]! := ⟨_, rfl⟩
          obtain ⟨Y, hY⟩ : ∃ Y, Y = dj[jp]! := ⟨_, rfl⟩
          have hXr := hR.at (i := jp + 1) (by omega)
          have hYr := hR.at (i := jp) (by omega)
          rw [← hX] at hXr; rw [← hY] at hYr
          obtain ⟨xn, hxn⟩ := Int.eq_ofNat_of_zero_le hXr.1
          obtain ⟨yn, hyn⟩ := Int.eq_ofNat_of_zero_le hYr.1
          have hgx := row_get (d := dj) (i := jp + 1) (by omega)
          have hgy := row_get (d := dj) (i := jp) (by omega)
          rw [← hX, hxn] at hgx; rw [← hY, hyn] at hgy
          have hlte : lt dj[jp + 1]! dj[jp]! = decide (cf xn yn < 0) := by rw [HLT.out, ← hX, ← hY, hxn, hyn]
          have hrs := E.swap (jp + 1) jp
          have hbd := (Below.refl wr.heap.size wr).drew
          replace E := E.below hbd
          clear hbd hrs
          have hRs := hR.swp (i := jp + 1) (j := jp) (by omega) (by omega)
          have hss : (swp dj (jp + 1) jp).size = n := by rw [size_swp]; exact hsj
          have hrs := fun (V : World) (e : RwW w r dj V) => e.swap (jp + 1) jp
          have hgo := fun h => insInner_go lt 0 (jp + 1) dj (by omega) h
          simp only [Nat.add_sub_cancel] at hgo
          have hcf := fun V h => HF.out V xn yn h (by omega) (by omega)
          rw [← hX, ← hY, hxn, hyn] at hrs
          have HRS := hid hrs; have HGO := hid hgo; have HLE := hid hlte; have HRSG := hid (And.intro hRs hss)
          have hjpI : ((jp + 1 : Nat) : Int) < (n : Int) := by omega
          have hjpI2 : (jp : Int) < (n : Int) := by omega
          have hjp0 : (0 : Int) ≤ (jp : Int) := by omega
          have hjp1 : (0 : Int) ≤ ((jp + 1 : Nat) : Int) := by omega
          have hgt : ((jp + 1 : Nat) : Int) > 0 := by omega
          have ewk : IntKind.i64.wrap (jp : Int) = (jp : Int) := IntWalk.i64_in _ (by omega)
          clear hX hY hxn hyn hXr hYr hgo hlte hrs hRs hss
          go_upto_region 4 with fail
          have q0 := E.y.cell (jp + 1) (vrow_at hgx)
          have q1 := E.y.cell jp (vrow_at hgy)
          have S0 := And.intro q0 q1
          clear q0 q1
          refine wp_region_head 16 (fun w' => w'.cell? ⟨r, jp + 1, none⟩ = some (.int .i64 (xn : Int)) ∧ w'.cell? ⟨r, jp, none⟩ = some (.int .i64 (yn : Int))) (by kernel_rfl) rfl ?_
          generalize wr.drew = Y0 at *
          by_cases hneg : cf xn yn < 0
          · skip
            refine HeadAt.take (i := 0) (.int .i64 ((jp + 1 : Nat) : Int)) rfl (by kernel_rfl) (.inl ⟨rfl, fun _ _ => by simp [go_sem]⟩) S0 ?_
            (try simp only [Act.put, List.getElem_toArray, List.getElem_cons_succ, List.getElem_cons_zero, List.setIfInBounds_toArray, List.set_cons_succ, List.set_cons_zero])
            refine HeadAt.take (i := 1) (.int .i64 0) rfl (by kernel_rfl) (.inl ⟨rfl, fun _ _ => by simp [go_sem]⟩) S0 ?_
            (try simp only [Act.put, List.getElem_toArray, List.getElem_cons_succ, List.getElem_cons_zero, List.setIfInBounds_toArray, List.set_cons_succ, List.set_cons_zero])
            refine HeadAt.take (i := 2) (.bool true) rfl (by kernel_rfl) (.inl ⟨rfl, fun w' z => ?_⟩) S0 ?_
            · (simp [go_sem] <;> omega)
            (try simp only [Act.put, List.getElem_toArray, List.getElem_cons_succ, List.getElem_cons_zero, List.setIfInBounds_toArray, List.set_cons_succ, List.set_cons_zero])
            refine HeadAt.take (i := 3) (.bool true) rfl (by kernel_rfl) (.inl ⟨rfl, fun _ _ => by simp [go_sem]⟩) S0 ?_
            (try simp only [Act.put, List.getElem_toArray, List.getElem_cons_succ, List.getElem_cons_zero, List.setIfInBounds_toArray, List.set_cons_succ, List.set_cons_zero])
            refine HeadAt.take (i := 4) (.func (.func 70) #[] #[.pointer (some ⟨b1, 0, none⟩), .pointer (some ⟨b2, 0, none⟩)]) rfl (by kernel_rfl) (.inl ⟨rfl, fun _ _ => by simp [go_sem]⟩) S0 ?_
            (try simp only [Act.put, List.getElem_toArray, List.getElem_cons_succ, List.getElem_cons_zero, List.setIfInBounds_toArray, List.set_cons_succ, List.set_cons_zero])
            refine HeadAt.take (i := 5) (.slice (some ⟨r, 0, none⟩) n n) rfl (by kernel_rfl) (.inl ⟨rfl, fun _ _ => by simp [go_sem]⟩) S0 ?_
            (try simp only [Act.put, List.getElem_toArray, List.getElem_cons_succ, List.getElem_cons_zero, List.setIfInBounds_toArray, List.set_cons_succ, List.set_cons_zero])
            refine HeadAt.take (i := 6) (.int .i64 ((jp + 1 : Nat) : Int)) rfl (by kernel_rfl) (.inl ⟨rfl, fun _ _ => by simp [go_sem]⟩) S0 ?_
            (try simp only [Act.put, List.getElem_toArray, List.getElem_cons_succ, List.getElem_cons_zero, List.setIfInBounds_toArray, List.set_cons_succ, List.set_cons_zero])
            refine HeadAt.take (i := 7) (.pointer (some ⟨r, jp + 1, none⟩)) rfl (by kernel_rfl) (.inl ⟨rfl, fun w' z => ?_⟩) S0 ?_
            · (have h1 := hjpI; have h2 := hjp1; simp [go_sem] <;> omega)
            (try simp only [Act.put, List.getElem_toArray, List.getElem_cons_succ, List.getElem_cons_zero, List.setIfInBounds_toArray, List.set_cons_succ, List.set_cons_zero])
            refine HeadAt.take (i := 8) (.int .i64 (xn : Int)) rfl (by kernel_rfl) (.inl ⟨rfl, fun w' z => ?_⟩) S0 ?_
            · (simp [go_sem, z.1])
            (try simp only [Act.put, List.getElem_toArray, List.getElem_cons_succ, List.getElem_cons_zero, List.setIfInBounds_toArray, List.set_cons_succ, List.set_cons_zero])
            refine HeadAt.take (i := 9) (.slice (some ⟨r, 0, none⟩) n n) rfl (by kernel_rfl) (.inl ⟨rfl, fun _ _ => by simp [go_sem]⟩) S0 ?_
            (try simp only [Act.put, List.getElem_toArray, List.getElem_cons_succ, List.getElem_cons_zero, List.setIfInBounds_toArray, List.set_cons_succ, List.set_cons_zero])
            refine HeadAt.take (i := 10) (.int .i64 ((jp + 1 : Nat) : Int)) rfl (by kernel_rfl) (.inl ⟨rfl, fun _ _ => by simp [go_sem]⟩) S0 ?_
            (try simp only [Act.put, List.getElem_toArray, List.getElem_cons_succ, List.getElem_cons_zero, List.setIfInBounds_toArray, List.set_cons_succ, List.set_cons_zero])
            refine HeadAt.take (i := 11) (.int .i64 (jp : Int)) rfl (by kernel_rfl) (.inl ⟨rfl, fun w' z => ?_⟩) S0 ?_
            · (simp [go_sem, ewk])
            (try simp only [Act.put, List.getElem_toArray, List.getElem_cons_succ, List.getElem_cons_zero, List.setIfInBounds_toArray, List.set_cons_succ, List.set_cons_zero])
            refine HeadAt.take (i := 12) (.pointer (some ⟨r, jp, none⟩)) rfl (by kernel_rfl) (.inl ⟨rfl, fun w' z => ?_⟩) S0 ?_
            · (simp [go_sem, hjpI2, hjp0])
            (try simp only [Act.put, List.getElem_toArray, List.getElem_cons_succ, List.getElem_cons_zero, List.setIfInBounds_toArray, List.set_cons_succ, List.set_cons_zero])
            refine HeadAt.take (i := 13) (.int .i64 (yn : Int)) rfl (by kernel_rfl) (.inl ⟨rfl, fun w' z => ?_⟩) S0 ?_
            · (simp [go_sem, z.2])
            (try simp only [Act.put, List.getElem_toArray, List.getElem_cons_succ, List.getElem_cons_zero, List.setIfInBounds_toArray, List.set_cons_succ, List.set_cons_zero])
            refine HeadAt.one (i := 14) rfl (by kernel_rfl) ?_
            generalize hK : Upto _ _ = K0
            (try simp only [Act.put, List.getElem_toArray, List.getElem_cons_succ, List.getElem_cons_zero, List.setIfInBounds_toArray, List.set_cons_succ, List.set_cons_zero])
            go_wp2_with fail
            refine (hcf _ E.gr).mono ?_
            rintro e V6 ⟨rfl, hb3⟩
            go_wp2_with fail
            replace E := E.below hb3
            replace S0 := And.intro (Below.keep hb3 S0.1) (Below.keep hb3 S0.2)
            clear hb3 hcf
            subst hK
            refine ⟨S0, ?_⟩
            (try simp only [Act.put, List.getElem_toArray, List.getElem_cons_succ, List.getElem_cons_zero, List.setIfInBounds_toArray, List.set_cons_succ, List.set_cons_zero])
            refine HeadAt.take (i := 15) (.bool true) rfl (by kernel_rfl) (.inl ⟨rfl, fun w' z => ?_⟩) S0 ?_
            · (simp [go_sem, hneg])
            (try simp only [Act.put, List.getElem_toArray, List.getElem_cons_succ, List.getElem_cons_zero, List.setIfInBounds_toArray, List.set_cons_succ, List.set_cons_zero])
            refine HeadAt.done (by kernel_rfl) ?_
            (try simp only [Act.put, List.drop_succ_cons, List.drop_zero, List.getElem_toArray, List.getElem_cons_succ, List.getElem_cons_zero])
            go_wp2_with fail
            refine NoPanic.normal ?_
            have HLT2 := hid (HLE.out.trans (decide_eq_true hneg))
            clear hneg S0
            go_upto_region 6 with fail
            have hbd := (Below.refl V6.heap.size V6).drew
            replace E := E.below hbd
            clear hbd
            have q0 := E.y.cell (jp + 1) (vrow_at hgx)
            have S0 := E.y.cell jp (vrow_at hgy)
            have f0 := E.y.free (jp + 1)
            have E1 := E.y.set (jp + 1) (.int .i64 (yn : Int))
            have S1 := E1.cell jp (by rw [Array.getElem?_setIfInBounds_ne (by omega)]; exact vrow_at hgy)
            have f1 := E1.free jp
            have HE2 := hid (HRS.out _ E)
            clear E1 hgx hgy HRS
            refine wp_region_head 16 (fun w' => w'.cell? ⟨r, jp, none⟩ = some (.int .i64 (yn : Int))) (by kernel_rfl) rfl ?_
            generalize V6.drew = Y0 at *
            refine HeadAt.take (i := 0) (.slice (some ⟨r, 0, none⟩) n n) rfl (by kernel_rfl) (.inl ⟨rfl, fun _ _ => by simp [go_sem]⟩) S0 ?_
            (try simp only [Act.put, List.getElem_toArray, List.getElem_cons_succ, List.getElem_cons_zero, List.setIfInBounds_toArray, List.set_cons_succ, List.set_cons_zero])
            refine HeadAt.take (i := 1) (.int .i64 ((jp + 1 : Nat) : Int)) rfl (by kernel_rfl) (.inl ⟨rfl, fun _ _ => by simp [go_sem]⟩) S0 ?_
            (try simp only [Act.put, List.getElem_toArray, List.getElem_cons_succ, List.getElem_cons_zero, List.setIfInBounds_toArray, List.set_cons_succ, List.set_cons_zero])
            refine HeadAt.take (i := 2) (.slice (some ⟨r, 0, none⟩) n n) rfl (by kernel_rfl) (.inl ⟨rfl, fun _ _ => by simp [go_sem]⟩) S0 ?_
            (try simp only [Act.put, List.getElem_toArray, List.getElem_cons_succ, List.getElem_cons_zero, List.setIfInBounds_toArray, List.set_cons_succ, List.set_cons_zero])
            refine HeadAt.take (i := 3) (.int .i64 ((jp + 1 : Nat) : Int)) rfl (by kernel_rfl) (.inl ⟨rfl, fun _ _ => by simp [go_sem]⟩) S0 ?_
            (try simp only [Act.put, List.getElem_toArray, List.getElem_cons_succ, List.getElem_cons_zero, List.setIfInBounds_toArray, List.set_cons_succ, List.set_cons_zero])
            refine HeadAt.take (i := 4) (.int .i64 (jp : Int)) rfl (by kernel_rfl) (.inl ⟨rfl, fun w' z => ?_⟩) S0 ?_
            · (simp [go_sem, ewk])
            (try simp only [Act.put, List.getElem_toArray, List.getElem_cons_succ, List.getElem_cons_zero, List.setIfInBounds_toArray, List.set_cons_succ, List.set_cons_zero])
            refine HeadAt.take (i := 5) (.slice (some ⟨r, 0, none⟩) n n) rfl (by kernel_rfl) (.inl ⟨rfl, fun _ _ => by simp [go_sem]⟩) S0 ?_
            (try simp only [Act.put, List.getElem_toArray, List.getElem_cons_succ, List.getElem_cons_zero, List.setIfInBounds_toArray, List.set_cons_succ, List.set_cons_zero])
            refine HeadAt.take (i := 6) (.int .i64 ((jp + 1 : Nat) : Int)) rfl (by kernel_rfl) (.inl ⟨rfl, fun _ _ => by simp [go_sem]⟩) S0 ?_
            (try simp only [Act.put, List.getElem_toArray, List.getElem_cons_succ, List.getElem_cons_zero, List.setIfInBounds_toArray, List.set_cons_succ, List.set_cons_zero])
            refine HeadAt.take (i := 7) (.int .i64 (jp : Int)) rfl (by kernel_rfl) (.inl ⟨rfl, fun w' z => ?_⟩) S0 ?_
            · (simp [go_sem, ewk])
            (try simp only [Act.put, List.getElem_toArray, List.getElem_cons_succ, List.getElem_cons_zero, List.setIfInBounds_toArray, List.set_cons_succ, List.set_cons_zero])
            refine HeadAt.take (i := 8) (.pointer (some ⟨r, jp, none⟩)) rfl (by kernel_rfl) (.inl ⟨rfl, fun w' z => ?_⟩) S0 ?_
            · (simp [go_sem, hjpI2, hjp0])
            (try simp only [Act.put, List.getElem_toArray, List.getElem_cons_succ, List.getElem_cons_zero, List.setIfInBounds_toArray, List.set_cons_succ, List.set_cons_zero])
            refine HeadAt.take (i := 9) (.int .i64 (yn : Int)) rfl (by kernel_rfl) (.inl ⟨rfl, fun w' z => ?_⟩) S0 ?_
            · (simp [go_sem, z])
            (try simp only [Act.put, List.getElem_toArray, List.getElem_cons_succ, List.getElem_cons_zero, List.setIfInBounds_toArray, List.set_cons_succ, List.set_cons_zero])
            refine HeadAt.take (i := 10) (.slice (some ⟨r, 0, none⟩) n n) rfl (by kernel_rfl) (.inl ⟨rfl, fun _ _ => by simp [go_sem]⟩) S0 ?_
            (try simp only [Act.put, List.getElem_toArray, List.getElem_cons_succ, List.getElem_cons_zero, List.setIfInBounds_toArray, List.set_cons_succ, List.set_cons_zero])
            refine HeadAt.take (i := 11) (.int .i64 ((jp + 1 : Nat) : Int)) rfl (by kernel_rfl) (.inl ⟨rfl, fun _ _ => by simp [go_sem]⟩) S0 ?_
            (try simp only [Act.put, List.getElem_toArray, List.getElem_cons_succ, List.getElem_cons_zero, List.setIfInBounds_toArray, List.set_cons_succ, List.set_cons_zero])
            refine HeadAt.take (i := 12) (.pointer (some ⟨r, jp + 1, none⟩)) rfl (by kernel_rfl) (.inl ⟨rfl, fun w' z => ?_⟩) S0 ?_
            · (have h1 := hjpI; have h2 := hjp1; simp [go_sem] <;> omega)
            (try simp only [Act.put, List.getElem_toArray, List.getElem_cons_succ, List.getElem_cons_zero, List.setIfInBounds_toArray, List.set_cons_succ, List.set_cons_zero])
            refine HeadAt.one (i := 13) rfl (by kernel_rfl) ?_
            generalize hK : Upto _ _ = K0
            (try simp only [Act.put, List.getElem_toArray, List.getElem_cons_succ, List.getElem_cons_zero, List.setIfInBounds_toArray, List.set_cons_succ, List.set_cons_zero])
            go_wp2_with fail
            subst hK
            refine ⟨S0, ?_⟩
            (try simp only [Act.put, List.getElem_toArray, List.getElem_cons_succ, List.getElem_cons_zero, List.setIfInBounds_toArray, List.set_cons_succ, List.set_cons_zero])
            refine HeadAt.take (i := 14) (.pointer (some ⟨r, jp + 1, none⟩)) rfl (by kernel_rfl) (.inl ⟨rfl, fun w' z => ?_⟩) S0 ?_
            · (have h1 := hjpI; have h2 := hjp1; simp [go_sem] <;> omega)
            (try simp only [Act.put, List.getElem_toArray, List.getElem_cons_succ, List.getElem_cons_zero, List.setIfInBounds_toArray, List.set_cons_succ, List.set_cons_zero])
            refine HeadAt.one (i := 15) rfl (by kernel_rfl) ?_
            generalize hK : Upto _ _ = K0
            (try simp only [Act.put, List.getElem_toArray, List.getElem_cons_succ, List.getElem_cons_zero, List.setIfInBounds_toArray, List.set_cons_succ, List.set_cons_zero])
            go_wp2_with fail
            subst hK
            clear q0 f0 S0
            refine ⟨S1, ?_⟩
            (try simp only [Act.put, List.getElem_toArray, List.getElem_cons_succ, List.getElem_cons_zero, List.setIfInBounds_toArray, List.set_cons_succ, List.set_cons_zero])
            refine HeadAt.done (by kernel_rfl) ?_
            (try simp only [Act.put, List.drop_succ_cons, List.drop_zero, List.getElem_toArray, List.getElem_cons_succ, List.getElem_cons_zero])
            go_wp2_with fail
            refine NoPanic.normal ?_
            clear S1 f1
            generalize World.setCell (World.setCell _ _ _) _ _ = Y2 at *
            go_wp2
            go_roundg jp
            case measure => omega
            case rel => exact ⟨jp, swp dj (jp + 1) jp, by first | rfl | go_num | (congr 1; omega), by omega, Nat.le_refl _, HRSG.out.2, HE2.out, HRSG.out.1, hid (by rw [← HI.out]; exact (HGO.out HLT2.out).symm)⟩
          · skip
            refine HeadAt.take (i := 0) (.int .i64 ((jp + 1 : Nat) : Int)) rfl (by kernel_rfl) (.inl ⟨rfl, fun _ _ => by simp [go_sem]⟩) S0 ?_
            (try simp only [Act.put, List.getElem_toArray, List.getElem_cons_succ, List.getElem_cons_zero, List.setIfInBounds_toArray, List.set_cons_succ, List.set_cons_zero])
            refine HeadAt.take (i := 1) (.int .i64 0) rfl (by kernel_rfl) (.inl ⟨rfl, fun _ _ => by simp [go_sem]⟩) S0 ?_
            (try simp only [Act.put, List.getElem_toArray, List.getElem_cons_succ, List.getElem_cons_zero, List.setIfInBounds_toArray, List.set_cons_succ, List.set_cons_zero])
            refine HeadAt.take (i := 2) (.bool true) rfl (by kernel_rfl) (.inl ⟨rfl, fun w' z => ?_⟩) S0 ?_
            · (simp [go_sem] <;> omega)
            (try simp only [Act.put, List.getElem_toArray, List.getElem_cons_succ, List.getElem_cons_zero, List.setIfInBounds_toArray, List.set_cons_succ, List.set_cons_zero])
            refine HeadAt.take (i := 3) (.bool true) rfl (by kernel_rfl) (.inl ⟨rfl, fun _ _ => by simp [go_sem]⟩) S0 ?_
            (try simp only [Act.put, List.getElem_toArray, List.getElem_cons_succ, List.getElem_cons_zero, List.setIfInBounds_toArray, List.set_cons_succ, List.set_cons_zero])
            refine HeadAt.take (i := 4) (.func (.func 70) #[] #[.pointer (some ⟨b1, 0, none⟩), .pointer (some ⟨b2, 0, none⟩)]) rfl (by kernel_rfl) (.inl ⟨rfl, fun _ _ => by simp [go_sem]⟩) S0 ?_
            (try simp only [Act.put, List.getElem_toArray, List.getElem_cons_succ, List.getElem_cons_zero, List.setIfInBounds_toArray, List.set_cons_succ, List.set_cons_zero])
            refine HeadAt.take (i := 5) (.slice (some ⟨r, 0, none⟩) n n) rfl (by kernel_rfl) (.inl ⟨rfl, fun _ _ => by simp [go_sem]⟩) S0 ?_
            (try simp only [Act.put, List.getElem_toArray, List.getElem_cons_succ, List.getElem_cons_zero, List.setIfInBounds_toArray, List.set_cons_succ, List.set_cons_zero])
            refine HeadAt.take (i := 6) (.int .i64 ((jp + 1 : Nat) : Int)) rfl (by kernel_rfl) (.inl ⟨rfl, fun _ _ => by simp [go_sem]⟩) S0 ?_
            (try simp only [Act.put, List.getElem_toArray, List.getElem_cons_succ, List.getElem_cons_zero, List.setIfInBounds_toArray, List.set_cons_succ, List.set_cons_zero])
            refine HeadAt.take (i := 7) (.pointer (some ⟨r, jp + 1, none⟩)) rfl (by kernel_rfl) (.inl ⟨rfl, fun w' z => ?_⟩) S0 ?_
            · (have h1 := hjpI; have h2 := hjp1; simp [go_sem] <;> omega)
            (try simp only [Act.put, List.getElem_toArray, List.getElem_cons_succ, List.getElem_cons_zero, List.setIfInBounds_toArray, List.set_cons_succ, List.set_cons_zero])
            refine HeadAt.take (i := 8) (.int .i64 (xn : Int)) rfl (by kernel_rfl) (.inl ⟨rfl, fun w' z => ?_⟩) S0 ?_
            · (simp [go_sem, z.1])
            (try simp only [Act.put, List.getElem_toArray, List.getElem_cons_succ, List.getElem_cons_zero, List.setIfInBounds_toArray, List.set_cons_succ, List.set_cons_zero])
            refine HeadAt.take (i := 9) (.slice (some ⟨r, 0, none⟩) n n) rfl (by kernel_rfl) (.inl ⟨rfl, fun _ _ => by simp [go_sem]⟩) S0 ?_
            (try simp only [Act.put, List.getElem_toArray, List.getElem_cons_succ, List.getElem_cons_zero, List.setIfInBounds_toArray, List.set_cons_succ, List.set_cons_zero])
            refine HeadAt.take (i := 10) (.int .i64 ((jp + 1 : Nat) : Int)) rfl (by kernel_rfl) (.inl ⟨rfl, fun _ _ => by simp [go_sem]⟩) S0 ?_
            (try simp only [Act.put, List.getElem_toArray, List.getElem_cons_succ, List.getElem_cons_zero, List.setIfInBounds_toArray, List.set_cons_succ, List.set_cons_zero])
            refine HeadAt.take (i := 11) (.int .i64 (jp : Int)) rfl (by kernel_rfl) (.inl ⟨rfl, fun w' z => ?_⟩) S0 ?_
            · (simp [go_sem, ewk])
            (try simp only [Act.put, List.getElem_toArray, List.getElem_cons_succ, List.getElem_cons_zero, List.setIfInBounds_toArray, List.set_cons_succ, List.set_cons_zero])
            refine HeadAt.take (i := 12) (.pointer (some ⟨r, jp, none⟩)) rfl (by kernel_rfl) (.inl ⟨rfl, fun w' z => ?_⟩) S0 ?_
            · (simp [go_sem, hjpI2, hjp0])
            (try simp only [Act.put, List.getElem_toArray, List.getElem_cons_succ, List.getElem_cons_zero, List.setIfInBounds_toArray, List.set_cons_succ, List.set_cons_zero])
            refine HeadAt.take (i := 13) (.int .i64 (yn : Int)) rfl (by kernel_rfl) (.inl ⟨rfl, fun w' z => ?_⟩) S0 ?_
            · (simp [go_sem, z.2])
            (try simp only [Act.put, List.getElem_toArray, List.getElem_cons_succ, List.getElem_cons_zero, List.setIfInBounds_toArray, List.set_cons_succ, List.set_cons_zero])
            refine HeadAt.one (i := 14) rfl (by kernel_rfl) ?_
            generalize hK : Upto _ _ = K0
            (try simp only [Act.put, List.getElem_toArray, List.getElem_cons_succ, List.getElem_cons_zero, List.setIfInBounds_toArray, List.set_cons_succ, List.set_cons_zero])
            go_wp2_with fail
            refine (hcf _ E.gr).mono ?_
            rintro e V7 ⟨rfl, hb3⟩
            go_wp2_with fail
            replace E := E.below hb3
            replace S0 := And.intro (Below.keep hb3 S0.1) (Below.keep hb3 S0.2)
            clear hb3 hcf
            subst hK
            refine ⟨S0, ?_⟩
            (try simp only [Act.put, List.getElem_toArray, List.getElem_cons_succ, List.getElem_cons_zero, List.setIfInBounds_toArray, List.set_cons_succ, List.set_cons_zero])
            refine HeadAt.take (i := 15) (.bool false) rfl (by kernel_rfl) (.inl ⟨rfl, fun w' z => ?_⟩) S0 ?_
            · (simp [go_sem, hneg])
            (try simp only [Act.put, List.getElem_toArray, List.getElem_cons_succ, List.getElem_cons_zero, List.setIfInBounds_toArray, List.set_cons_succ, List.set_cons_zero])
            refine HeadAt.done (by kernel_rfl) ?_
            (try simp only [Act.put, List.drop_succ_cons, List.drop_zero, List.getElem_toArray, List.getElem_cons_succ, List.getElem_cons_zero])
            go_wp2_with fail
            refine NoPanic.normal ?_
            have HLT2 := hid (HLE.out.trans (decide_eq_false (by omega)))
            clear hneg S0
            go_wp2
            go_roundg (n - (i + 1))
            case measure => omega
            case rel => exact ⟨i + 1, dj, by go_num, by omega, by omega, by omega, hsj, E, hR, hid (OUT.out (.inr (by rw [Nat.add_sub_cancel]; exact HLT2.out)))⟩
    · have hltz : ¬ (i : Int) < (n : Int) := by omega
      go_wp2
      go_end0
      exact ⟨rfl, by unfold insertionSort; rw [← HO.out, insOuter_stop _ _ _ _ _ hlt]; exact E⟩
end Go.Proofs.Ytakodllejndfeaa
