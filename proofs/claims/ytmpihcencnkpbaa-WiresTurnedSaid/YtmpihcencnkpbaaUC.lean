import Derived.Test.YtmpihcencnkpbaaM5
import Derived.Test.YtmpihcencnkpbaaTL
/-! The reference's turned, Exchanged. -/
namespace Go.Proofs.Ytmpihcencnkpbaa
set_option linter.unusedSimpArgs false
set_option linter.unusedVariables false
open Go Go.RowKit

set_option maxRecDepth 100000 in
set_option maxHeartbeats 4000000 in
theorem turned_any (f : F3) (hk : 1 ≤ f.k ∧ f.k ≤ 4) (w : World) : Calls Try.prog 80 #[.agg #[.int .i64 f.k, .int .i64 f.a, .int .i64 f.b]] w fun e w' => e = .returned (.agg #[.int .i64 (tuF f).k, .int .i64 (tuF f).a, .int .i64 (tuF f).b]) ∧ Below w.heap.size w w' := by
  obtain ⟨x, p, r⟩ := f
  simp only at hk
  show Calls Try.prog 80 #[.agg #[.int .i64 x, .int .i64 p, .int .i64 r]] w fun e w' => e = .returned (.agg #[.int .i64 (tkI x), .int .i64 p, .int .i64 r]) ∧ Below w.heap.size w w'
  obtain ⟨k, rfl⟩ : ∃ k : Nat, x = (k : Int) := ⟨x.toNat, by omega⟩
  obtain ⟨t, ht⟩ : ∃ t, t = tkI (k : Int) := ⟨_, rfl⟩
  rw [← ht]
  have hat : (#[.int .i64 0, .int .i64 2, .int .i64 1, .int .i64 4, .int .i64 3] : Array Value)[k]? = some (.int .i64 t) := by
    rcases (show k = 1 ∨ k = 2 ∨ k = 3 ∨ k = 4 by omega) with rfl | rfl | rfl | rfl <;> rw [ht] <;> rfl
  have hkI : (k : Int) < 5 := by omega
  have hk0 : (0 : Int) ≤ (k : Int) := by omega
  have HAT := hid hat
  clear ht hat hk
  go_enter Try.func80, Try.ntmps80
  go_upto_region 2 with fail
  obtain ⟨W, hW, hb, hs, x0, x1, x2⟩ := boxes3 w #[.int .i64 (k : Int), .int .i64 p, .int .i64 r] 63 #[.int .i64 0, .int .i64 0, .int .i64 0] 63 #[.int .i64 0, .int .i64 2, .int .i64 1, .int .i64 4, .int .i64 3] 3
  rw [hW]
  clear hW
  have hbd := (Below.refl W.heap.size W).drew
  have S0 := (And.intro (x0.below hbd) (And.intro (x1.below hbd) (x2.below hbd)))
  replace hb := hb.trans (hbd.mono hb.size)
  clear hbd x0 x1 x2
  refine wp_region_head 10 (fun w' => (Bx w' w.heap.size #[.int .i64 (k : Int), .int .i64 p, .int .i64 r] 63) ∧ (Bx w' (w.heap.size + 1) #[.int .i64 0, .int .i64 0, .int .i64 0] 63) ∧ (Bx w' (w.heap.size + 2) #[.int .i64 0, .int .i64 2, .int .i64 1, .int .i64 4, .int .i64 3] 3)) (by kernel_rfl) rfl ?_
  generalize W.drew = Y0 at *
  refine HeadAt.take (i := 0) (.slice (some ⟨w.heap.size + 2, 0, none⟩) 5 5) rfl (by kernel_rfl) (.inl ⟨rfl, fun _ _ => by simp [go_sem]⟩) S0 ?_
  (try simp only [Act.put, List.getElem_toArray, List.getElem_cons_succ, List.getElem_cons_zero, List.setIfInBounds_toArray, List.set_cons_succ, List.set_cons_zero])
  refine HeadAt.take (i := 1) (.pointer (some ⟨w.heap.size, 0, none⟩)) rfl (by kernel_rfl) (.inl ⟨rfl, fun _ _ => by simp [go_sem]⟩) S0 ?_
  (try simp only [Act.put, List.getElem_toArray, List.getElem_cons_succ, List.getElem_cons_zero, List.setIfInBounds_toArray, List.set_cons_succ, List.set_cons_zero])
  refine HeadAt.take (i := 2) (.int .i64 (k : Int)) rfl (by kernel_rfl) (.inl ⟨rfl, fun w' z => ?_⟩) S0 ?_
  · (have z0 := z.1.cell 0 rfl; simp [go_sem, z0])
  (try simp only [Act.put, List.getElem_toArray, List.getElem_cons_succ, List.getElem_cons_zero, List.setIfInBounds_toArray, List.set_cons_succ, List.set_cons_zero])
  refine HeadAt.take (i := 3) (.pointer (some ⟨w.heap.size + 2, k, none⟩)) rfl (by kernel_rfl) (.inl ⟨rfl, fun w' z => ?_⟩) S0 ?_
  · (simp [go_sem, hkI, hk0])
  (try simp only [Act.put, List.getElem_toArray, List.getElem_cons_succ, List.getElem_cons_zero, List.setIfInBounds_toArray, List.set_cons_succ, List.set_cons_zero])
  refine HeadAt.take (i := 4) (.int .i64 t) rfl (by kernel_rfl) (.inl ⟨rfl, fun w' z => ?_⟩) S0 ?_
  · (have z0 := z.2.2.cell k HAT.out; simp [go_sem, z0])
  (try simp only [Act.put, List.getElem_toArray, List.getElem_cons_succ, List.getElem_cons_zero, List.setIfInBounds_toArray, List.set_cons_succ, List.set_cons_zero])
  refine HeadAt.take (i := 5) (.pointer (some ⟨w.heap.size, 1, none⟩)) rfl (by kernel_rfl) (.inl ⟨rfl, fun _ _ => by simp [go_sem]⟩) S0 ?_
  (try simp only [Act.put, List.getElem_toArray, List.getElem_cons_succ, List.getElem_cons_zero, List.setIfInBounds_toArray, List.set_cons_succ, List.set_cons_zero])
  refine HeadAt.take (i := 6) (.int .i64 p) rfl (by kernel_rfl) (.inl ⟨rfl, fun w' z => ?_⟩) S0 ?_
  · (have z0 := z.1.cell 1 rfl; simp [go_sem, z0])
  (try simp only [Act.put, List.getElem_toArray, List.getElem_cons_succ, List.getElem_cons_zero, List.setIfInBounds_toArray, List.set_cons_succ, List.set_cons_zero])
  refine HeadAt.take (i := 7) (.pointer (some ⟨w.heap.size, 2, none⟩)) rfl (by kernel_rfl) (.inl ⟨rfl, fun _ _ => by simp [go_sem]⟩) S0 ?_
  (try simp only [Act.put, List.getElem_toArray, List.getElem_cons_succ, List.getElem_cons_zero, List.setIfInBounds_toArray, List.set_cons_succ, List.set_cons_zero])
  refine HeadAt.take (i := 8) (.int .i64 r) rfl (by kernel_rfl) (.inl ⟨rfl, fun w' z => ?_⟩) S0 ?_
  · (have z0 := z.1.cell 2 rfl; simp [go_sem, z0])
  (try simp only [Act.put, List.getElem_toArray, List.getElem_cons_succ, List.getElem_cons_zero, List.setIfInBounds_toArray, List.set_cons_succ, List.set_cons_zero])
  refine HeadAt.take (i := 9) (.agg #[.int .i64 t, .int .i64 p, .int .i64 r]) rfl (by kernel_rfl) (.inl ⟨rfl, fun _ _ => by simp [go_sem]⟩) S0 ?_
  (try simp only [Act.put, List.getElem_toArray, List.getElem_cons_succ, List.getElem_cons_zero, List.setIfInBounds_toArray, List.set_cons_succ, List.set_cons_zero])
  refine HeadAt.done (by kernel_rfl) ?_
  (try simp only [Act.put, List.drop_succ_cons, List.drop_zero, List.getElem_toArray, List.getElem_cons_succ, List.getElem_cons_zero])
  obtain ⟨x0, x1, x2⟩ := S0
  have y1 := x1.set3 (.int .i64 t) (.int .i64 p) (.int .i64 r)
  have yb := ((hb.setCell (p := ⟨w.heap.size + 1, 0, none⟩) (by show w.heap.size ≤ w.heap.size + 1; omega) (.int .i64 t)).setCell (p := ⟨w.heap.size + 1, 1, none⟩) (by show w.heap.size ≤ w.heap.size + 1; omega) (.int .i64 p)).setCell (p := ⟨w.heap.size + 1, 2, none⟩) (by show w.heap.size ≤ w.heap.size + 1; omega) (.int .i64 r)
  have HX := hid (And.intro y1 yb)
  have d0 := x1.cell 0 rfl; have d1 := x1.cell 1 rfl; have d2 := x1.cell 2 rfl
  have q0 := x1.free 0; have q1 := x1.free 1; have q2 := x1.free 2
  clear y1 yb x0 x1 x2 hb
  go_wp2_with fail
  refine NoPanic.normal ?_
  obtain ⟨y1, yb⟩ := HX.out
  clear HX d0 d1 d2 q0 q1 q2
  generalize World.setCell _ _ _ = V4 at *
  have e0 := y1.cell 0 rfl; have e1 := y1.cell 1 rfl; have e2 := y1.cell 2 rfl
  go_wp2
  refine bodyPost_ret (v := .agg #[.int .i64 t, .int .i64 p, .int .i64 r]) ?_ rfl ⟨rfl, yb⟩
  simp [results, Try.results80, go_sem, e0, e1, e2]

/-- What Exchanged hands back. -/
def ExcP (L N : Int) (P : List F3) (F : Int) (w : World) (e : Ending) (w' : World) : Prop :=
  Below w.heap.size w w' ∧ ∃ (a : Option Addr) (c : Nat), e = .returned (.agg #[.int .i64 N, .int .i64 L, .slice a (tuP L N P).length c, .int .i64 F]) ∧ Fz w' a (tuP L N P) ∧ (tuP L N P).length ≤ c
theorem tuP_snoc (L N : Int) (P : List F3) (p : F3) : tuP L N (P ++ [p]) = tuP L N P ++ [⟨p.a, p.k, selV L N p.b⟩] := by simp [tuP]
set_option maxRecDepth 100000 in
set_option maxHeartbeats 8000000 in
theorem Exchanged_any (L N : Int) (aP : Option Addr) (cP : Nat) (P : List F3) (F : Int) (w : World) (hP : Fz w aP P) (hL : 1 ≤ L ∧ L ≤ 5) (hN : 1 ≤ N ∧ N ≤ 5) (hq : ∀ p ∈ P, ((0 ≤ p.k ∧ p.k < L) ∧ (0 ≤ p.a ∧ p.a < N)) ∧ (-1 ≤ p.b ∧ p.b ≤ L * N - 1)) : Calls Try.prog 50 #[.agg #[.int .i64 L, .int .i64 N, .slice aP P.length cP, .int .i64 F]] w (ExcP L N P F w) := by
  obtain ⟨i0, hi0, iz0, iz1, iz2⟩ := info_parts info58
  have hlen := hP.len
  have h25 : L * N ≤ 5 * 5 := Int.mul_le_mul hL.2 hN.2 (by omega) (by omega)
  have h25' : N * L ≤ 5 * 5 := Int.mul_le_mul hN.2 hL.2 (by omega) (by omega)
  have hse := fun (p : F3) (hp : p ∈ P) V => Selection_any L N aP cP P F p.b V hL hN (by have := (hq p hp).2; omega)
  have hqi : ∀ x ∈ tuP L N P, x.i64 := fun x hx => by
    obtain ⟨p, hp, rfl⟩ := List.mem_map.1 hx
    have h1 := hq p hp
    have h2 := sel_rng hL hN h1.2
    unfold F3.i64
    simp only
    omega
  have htl := tuP_len L N P
  have hsn := fun T p => tuP_snoc L N T p
  obtain ⟨n, hn⟩ : ∃ n, n = P.length := ⟨_, rfl⟩
  unfold ExcP
  rw [← hn] at hlen hse htl ⊢
  rw [htl]
  have HN := hid hn
  have HSE := hid hse
  have HQI := hid hqi
  have HTL := hid htl
  have HSN := hid hsn
  have HTK := hid (fun k => tuP_take L N P k)
  clear hn hse hqi htl hsn h25 h25' hq hL hN
  go_enter Try.func50, Try.ntmps50
  obtain ⟨W0, hW0, hb0, hs0, x00⟩ := boxes1 w #[.int .i64 L, .int .i64 N, .slice aP n cP, .int .i64 F] 24
  obtain ⟨W, hW, hb, hs, x0, x1, x2⟩ := boxes3 w #[.int .i64 L, .int .i64 N, .slice aP n cP, .int .i64 F] 24 #[.int .i64 0, .int .i64 0, .slice none 0 0, .int .i64 0] 24 #[.int .i64 N, .int .i64 L, .slice none 0 0, .int .i64 F] 24
  have h0 := (x00.below (below_one (w := W0) (.cells #[.int .i64 0, .int .i64 0, .slice none 0 0, .int .i64 0] 24)))
  rw [← hW0] at h0
  have c0 := h0.cell 0 rfl; have c1 := h0.cell 1 rfl; have c2 := h0.cell 2 rfl; have c3 := h0.cell 3 rfl
  clear h0 x00 hb0 hs0 hW0
  go_upto_region 2 with fail
  clear hW c0 c1 c2 c3
  have hown := World.ownsRow_nil W (w.heap.size + 3) 58 3
  have hsz : w.heap.size + 3 ≤ W.heap.size := by omega
  replace hown : W.ownsRow (w.heap.size + 3) 58 3 (.slice none 0 0) 0 (fcells (tuP L N (P.take 0))) := hown
  clear hs
  go_wp2
  go_loopg [4, 5] n (fun g v4 v5 wr => ∃ (j : Nat) (a : Option Addr) (c : Nat), j + g = n ∧ v4 = .int .i64 (j : Int) ∧ Bx wr w.heap.size #[.int .i64 L, .int .i64 N, .slice aP n cP, .int .i64 F] 24 ∧ Bx wr (w.heap.size + 1) #[.int .i64 0, .int .i64 0, .slice none 0 0, .int .i64 0] 24 ∧ Bx wr (w.heap.size + 2) #[.int .i64 N, .int .i64 L, .slice a j c, .int .i64 F] 24 ∧ wr.ownsRow (w.heap.size + 3) 58 3 (.slice a j c) j (fcells (tuP L N (P.take j))) ∧ Below w.heap.size w wr ∧ w.heap.size + 3 ≤ wr.heap.size)
  case atStart => exact ⟨0, none, 0, by omega, rfl, x0, x1, x2, hown, hb, hsz⟩
  case round =>
    clear x0 x1 x2 hown hb hsz
    obtain ⟨j, a, c, hjg, rfl, x0, x1, x2, hown, hb, hsz⟩ := hrel
    cases gk with
    | zero =>
      obtain rfl : j = n := by omega
      have hjI : ¬ (j : Int) < (j : Int) := by omega
      have hcap := own_cap hown
      have hf : Fz wr a (tuP L N P) := by
        rw [HN.out, List.take_length] at hown
        obtain ⟨a', c', e, hf, _⟩ := Fz.of_own (xs := tuP L N P) (by rw [HTL.out, HN.out]; exact hown) (by rw [HTL.out]; omega) HQI.out
        simp only [Value.slice.injEq] at e
        rw [e.1]; exact hf
      have hge := own_ge2 hown
      have hbl : ∀ ad, a = some ad → w.heap.size + 3 ≤ ad.block := fun ad e => hge ad.block (by rw [e]; rfl)
      have hg := gput4 wr (w.heap.size + 1) (.int .i64 N) (.int .i64 L) (.slice a j c) (.int .i64 F)
      have y1 := x1.set4 (.int .i64 N) (.int .i64 L) (.slice a j c) (.int .i64 F)
      have yb := below_put4 hb (b := w.heap.size + 1) (by omega) (.int .i64 N) (.int .i64 L) (.slice a j c) (.int .i64 F)
      have yf := hf.gro hg (fun ad e h => by have := hbl ad e; have := Option.some.inj h; omega)
      have HX := hid (And.intro y1 (And.intro yb yf))
      have c0 := x0.cell 0 rfl; have c1 := x0.cell 1 rfl; have c2 := x0.cell 2 rfl; have c3 := x0.cell 3 rfl
      have d0 := x2.cell 0 rfl; have d1 := x2.cell 1 rfl; have d2 := x2.cell 2 rfl; have d3 := x2.cell 3 rfl
      have e0 := x1.cell 0 rfl; have e1 := x1.cell 1 rfl; have e2 := x1.cell 2 rfl; have e3 := x1.cell 3 rfl
      have f0 := x1.free 0; have f1 := x1.free 1; have f2 := x1.free 2; have f3 := x1.free 3
      clear y1 yb yf hg hbl hge hf hown x0 x1 x2 hb
      go_wp2_with fail
      obtain ⟨y1, yb, yf⟩ := HX.out
      clear HX c0 c1 c2 c3 d0 d1 d2 d3 e0 e1 e2 e3 f0 f1 f2 f3
      generalize World.setCell _ _ _ = V4 at *
      have e0 := y1.cell 0 rfl; have e1 := y1.cell 1 rfl; have e2 := y1.cell 2 rfl; have e3 := y1.cell 3 rfl
      refine bodyPost_ret (v := .agg #[.int .i64 N, .int .i64 L, .slice a j c, .int .i64 F]) ?_ rfl ⟨yb, a, c, rfl, yf, hcap⟩
      simp [results, Try.results50, go_sem, e0, e1, e2, e3]
    | succ g =>
      have hjn : j < n := by omega
      obtain ⟨bP, oP, p, rfl, hbl, hat, _, hmem, _, _, htk⟩ := (hP.below hb (Nat.le_refl _)).at (k := j) (by rw [← HN.out]; exact hjn)
      have hjI : (j : Int) < (n : Int) := by omega
      have hj0 : (0 : Int) ≤ (j : Int) := by omega
      have hse := HSE.out p hmem
      have hsn := HSN.out (P.take j) p
      rw [← htk.out] at hsn
      obtain ⟨v, hv⟩ : ∃ v, v = selV L N p.b := ⟨_, rfl⟩
      rw [← hv] at hse hsn
      have HS2 := hid hsn
      have hba := below_one (w := wr) (.cells #[.int .i64 p.k, .int .i64 p.a, .int .i64 p.b] 58)
      have hlt := fun k hk => (hown.lt k hk).2
      have HXa := hid (And.intro (x0.below hba) (And.intro (x1.below hba) (And.intro (x2.below hba) (And.intro (own_below2 hown hba) (And.intro (hb.trans (hba.mono hb.size)) (And.intro (Bx.new wr #[.int .i64 p.k, .int .i64 p.a, .int .i64 p.b] 58) hba.size))))))
      obtain ⟨q0, q1, q2⟩ := hat
      have c0 := x0.cell 0 rfl; have c1 := x0.cell 1 rfl; have c2 := x0.cell 2 rfl; have c3 := x0.cell 3 rfl
      clear hv hsn htk hba x0 x1 x2 hown hb hmem
      go_upto_region 6 with fail
      clear c0 c1 c2 c3 q0 q1 q2
      obtain ⟨x0, x1, x2, hown, hb, y, hsz2⟩ := HXa.out
      clear HXa
      obtain ⟨sq, hsq⟩ : ∃ sq, sq = wr.heap.size := ⟨_, rfl⟩
      rw [← hsq] at y hlt hsz hsz2 ⊢
      generalize World.alloc _ _ = Va at *
      clear hsq hbl
      replace hown := own_below2 hown (Below.refl Va.heap.size Va).drew
      have hbd := (Below.refl Va.heap.size Va).drew
      have S0 := (And.intro (x0.below hbd) (And.intro (x1.below hbd) (And.intro (x2.below hbd) (y.below hbd))))
      replace hb := hb.trans (hbd.mono hb.size)
      clear hbd x0 x1 x2 y
      refine wp_region_head 13 (fun w' => (Bx w' w.heap.size #[.int .i64 L, .int .i64 N, .slice (some ⟨bP, oP, none⟩) n cP, .int .i64 F] 24) ∧ (Bx w' (w.heap.size + 1) #[.int .i64 0, .int .i64 0, .slice none 0 0, .int .i64 0] 24) ∧ (Bx w' (w.heap.size + 2) #[.int .i64 N, .int .i64 L, .slice a j c, .int .i64 F] 24) ∧ (Bx w' sq #[.int .i64 p.k, .int .i64 p.a, .int .i64 p.b] 58)) (by kernel_rfl) rfl ?_
      generalize Va.drew = Y0 at *
      refine HeadAt.take (i := 0) (.pointer (some ⟨w.heap.size + 2, 2, none⟩)) rfl (by kernel_rfl) (.inl ⟨rfl, fun _ _ => by simp [go_sem]⟩) S0 ?_
      (try simp only [Act.put, List.getElem_toArray, List.getElem_cons_succ, List.getElem_cons_zero, List.setIfInBounds_toArray, List.set_cons_succ, List.set_cons_zero])
      refine HeadAt.take (i := 1) (.slice a j c) rfl (by kernel_rfl) (.inl ⟨rfl, fun w' z => ?_⟩) S0 ?_
      · (have z0 := z.2.2.1.cell 2 rfl; simp [go_sem, z0])
      (try simp only [Act.put, List.getElem_toArray, List.getElem_cons_succ, List.getElem_cons_zero, List.setIfInBounds_toArray, List.set_cons_succ, List.set_cons_zero])
      refine HeadAt.take (i := 2) (.pointer (some ⟨sq, 1, none⟩)) rfl (by kernel_rfl) (.inl ⟨rfl, fun _ _ => by simp [go_sem]⟩) S0 ?_
      (try simp only [Act.put, List.getElem_toArray, List.getElem_cons_succ, List.getElem_cons_zero, List.setIfInBounds_toArray, List.set_cons_succ, List.set_cons_zero])
      refine HeadAt.take (i := 3) (.int .i64 p.a) rfl (by kernel_rfl) (.inl ⟨rfl, fun w' z => ?_⟩) S0 ?_
      · (have z0 := z.2.2.2.cell 1 rfl; simp [go_sem, z0])
      (try simp only [Act.put, List.getElem_toArray, List.getElem_cons_succ, List.getElem_cons_zero, List.setIfInBounds_toArray, List.set_cons_succ, List.set_cons_zero])
      refine HeadAt.take (i := 4) (.pointer (some ⟨sq, 0, none⟩)) rfl (by kernel_rfl) (.inl ⟨rfl, fun _ _ => by simp [go_sem]⟩) S0 ?_
      (try simp only [Act.put, List.getElem_toArray, List.getElem_cons_succ, List.getElem_cons_zero, List.setIfInBounds_toArray, List.set_cons_succ, List.set_cons_zero])
      refine HeadAt.take (i := 5) (.int .i64 p.k) rfl (by kernel_rfl) (.inl ⟨rfl, fun w' z => ?_⟩) S0 ?_
      · (have z0 := z.2.2.2.cell 0 rfl; simp [go_sem, z0])
      (try simp only [Act.put, List.getElem_toArray, List.getElem_cons_succ, List.getElem_cons_zero, List.setIfInBounds_toArray, List.set_cons_succ, List.set_cons_zero])
      refine HeadAt.take (i := 6) (.agg #[.int .i64 L, .int .i64 N, .slice (some ⟨bP, oP, none⟩) n cP, .int .i64 F]) rfl (by kernel_rfl) (.inl ⟨rfl, fun w' z => ?_⟩) S0 ?_
      · (have z0 := z.1.cell 0 rfl; have z1 := z.1.cell 1 rfl; have z2 := z.1.cell 2 rfl; have z3 := z.1.cell 3 rfl; simp [go_sem, z0, z1, z2, z3])
      (try simp only [Act.put, List.getElem_toArray, List.getElem_cons_succ, List.getElem_cons_zero, List.setIfInBounds_toArray, List.set_cons_succ, List.set_cons_zero])
      refine HeadAt.take (i := 7) (.pointer (some ⟨sq, 2, none⟩)) rfl (by kernel_rfl) (.inl ⟨rfl, fun _ _ => by simp [go_sem]⟩) S0 ?_
      (try simp only [Act.put, List.getElem_toArray, List.getElem_cons_succ, List.getElem_cons_zero, List.setIfInBounds_toArray, List.set_cons_succ, List.set_cons_zero])
      refine HeadAt.take (i := 8) (.int .i64 p.b) rfl (by kernel_rfl) (.inl ⟨rfl, fun w' z => ?_⟩) S0 ?_
      · (have z0 := z.2.2.2.cell 2 rfl; simp [go_sem, z0])
      (try simp only [Act.put, List.getElem_toArray, List.getElem_cons_succ, List.getElem_cons_zero, List.setIfInBounds_toArray, List.set_cons_succ, List.set_cons_zero])
      refine HeadAt.one (i := 9) rfl (by kernel_rfl) ?_
      generalize hK : Upto _ _ = K0
      (try simp only [Act.put, List.getElem_toArray, List.getElem_cons_succ, List.getElem_cons_zero, List.setIfInBounds_toArray, List.set_cons_succ, List.set_cons_zero])
      go_wp2_with fail
      refine (hse _).mono ?_
      rintro e V1 ⟨rfl, hb1⟩
      go_wp2_with fail
      replace S0 := (And.intro (S0.1.below hb1) (And.intro (S0.2.1.below hb1) (And.intro (S0.2.2.1.below hb1) (S0.2.2.2.below hb1))))
      replace hb := hb.trans (hb1.mono hb.size)
      replace hown := own_below2 hown hb1
      clear hb1
      subst hK
      refine ⟨S0, ?_⟩
      (try simp only [Act.put, List.getElem_toArray, List.getElem_cons_succ, List.getElem_cons_zero, List.setIfInBounds_toArray, List.set_cons_succ, List.set_cons_zero])
      refine HeadAt.take (i := 10) (.agg #[.int .i64 p.a, .int .i64 p.k, .int .i64 v]) rfl (by kernel_rfl) (.inl ⟨rfl, fun _ _ => by simp [go_sem]⟩) S0 ?_
      (try simp only [Act.put, List.getElem_toArray, List.getElem_cons_succ, List.getElem_cons_zero, List.setIfInBounds_toArray, List.set_cons_succ, List.set_cons_zero])
      refine HeadAt.one (i := 11) rfl (by kernel_rfl) ?_
      generalize hK : Upto _ _ = K0
      (try simp only [Act.put, List.getElem_toArray, List.getElem_cons_succ, List.getElem_cons_zero, List.setIfInBounds_toArray, List.set_cons_succ, List.set_cons_zero])
      have hba := below_one (w := V1) (.cells #[.int .i64 p.a, .int .i64 p.k, .int .i64 v] 58)
      have hcl := Cls.of_bx (Bx.new V1 #[.int .i64 p.a, .int .i64 p.k, .int .i64 v] 58)
      replace hown := own_below2 hown hba
      replace S0 := (And.intro (S0.1.below hba) (And.intro (S0.2.1.below hba) (And.intro (S0.2.2.1.below hba) (S0.2.2.2.below hba))))
      replace hb := hb.trans (hba.mono hb.size)
      have HX := hid (And.intro hown (And.intro S0 (And.intro hb hcl)))
      clear hown S0 hb hcl hba
      go_wp2_with fail
      obtain ⟨hown, S0, hb, hcl⟩ := HX.out
      clear HX
      generalize V1.heap.size = sb at *
      generalize World.alloc _ _ = Y1 at *
      subst hK
      refine ⟨S0, ?_⟩
      (try simp only [Act.put, List.getElem_toArray, List.getElem_cons_succ, List.getElem_cons_zero, List.setIfInBounds_toArray, List.set_cons_succ, List.set_cons_zero])
      refine HeadAt.one (i := 12) rfl (by kernel_rfl) ?_
      generalize hK : Upto _ _ = K0
      (try simp only [Act.put, List.getElem_toArray, List.getElem_cons_succ, List.getElem_cons_zero, List.setIfInBounds_toArray, List.set_cons_succ, List.set_cons_zero])
      have hge := own_ge2 hown
      have hsz3 : w.heap.size + 3 ≤ Y1.heap.size := by have := S0.2.2.2.lt; omega
      go_wp2_with (at_builtin; refine wpList_appAt rfl (.tmp 26) (.tmp 36) 22 rfl (w.heap.size + 3) 58 i0 (.agg #[.int .i64 0, .int .i64 0, .int .i64 0]) 3 24 under22 hi0 iz0 iz1 iz2 rfl (by decide) (.slice a j c) j _ rfl hown (some ⟨sb, 0, none⟩) 1 1 (fcells [⟨p.a, p.k, v⟩]) rfl rfl hcl (fcells_one [⟨p.a, p.k, v⟩]) (by unfold maxLen; omega) (by omega) hsz3 ?_; intro v3 W3 hown3 hg3 hat)
      obtain ⟨a3, c3, rfl⟩ := own_slice2 hown3
      have hb3 : Below w.heap.size w W3 := hb.grown hg3 (by omega) (fun k hk => by have := hge k hk; omega)
      have hown4 : W3.ownsRow (w.heap.size + 3) 58 3 (.slice a3 (j + 1) c3) (j + 1) (fcells (tuP L N (P.take (j + 1)))) := by
        rw [HS2.out, fcells_app]; exact hown3
      have S1 := (And.intro (bx_gro2 S0.1 hg3 (fun e => by have := hge _ e; omega)) (And.intro (bx_gro2 S0.2.1 hg3 (fun e => by have := hge _ e; omega)) (And.intro (bx_gro2 S0.2.2.1 hg3 (fun e => by have := hge _ e; omega)) (bx_gro2 S0.2.2.2 hg3 (fun e => by have := hlt _ e; omega)))))
      have hge3 := own_ge2 hown4
      have hsz4 : w.heap.size + 3 ≤ W3.heap.size := by have := hg3.size; omega
      clear hown hown3 hg3 hat hge hcl hb S0 hsz3
      subst hK
      refine ⟨S1, ?_⟩
      (try simp only [Act.put, List.getElem_toArray, List.getElem_cons_succ, List.getElem_cons_zero, List.setIfInBounds_toArray, List.set_cons_succ, List.set_cons_zero])
      refine HeadAt.done (by kernel_rfl) ?_
      (try simp only [Act.put, List.drop_succ_cons, List.drop_zero, List.getElem_toArray, List.getElem_cons_succ, List.getElem_cons_zero])
      obtain ⟨x0, x1, x2, y⟩ := S1
      have z0 := x0.other (a := ⟨w.heap.size + 2, 2, none⟩) (by show w.heap.size ≠ w.heap.size + 2; omega) (.slice a3 (j + 1) c3)
      have z1 := x1.other (a := ⟨w.heap.size + 2, 2, none⟩) (by show w.heap.size + 1 ≠ w.heap.size + 2; omega) (.slice a3 (j + 1) c3)
      have z2 : Bx (W3.setCell ⟨w.heap.size + 2, 2, none⟩ (.slice a3 (j + 1) c3)) (w.heap.size + 2) #[.int .i64 N, .int .i64 L, .slice a3 (j + 1) c3, .int .i64 F] 24 := by simpa using x2.set 2 (.slice a3 (j + 1) c3)
      have zb := hb3.setCell (p := ⟨w.heap.size + 2, 2, none⟩) (by show w.heap.size ≤ w.heap.size + 2; omega) (.slice a3 (j + 1) c3)
      have zo := own_keep hown4 (gset W3 ⟨w.heap.size + 2, 2, none⟩ (.slice a3 (j + 1) c3)) (fun k hk e => by have := hge3 k hk; have e' : w.heap.size + 2 = k := (by simpa using e); omega)
      have zs : w.heap.size + 3 ≤ (W3.setCell ⟨w.heap.size + 2, 2, none⟩ (.slice a3 (j + 1) c3)).heap.size := by simpa [World.setCell] using hsz4
      have HX := hid (And.intro z0 (And.intro z1 (And.intro z2 (And.intro zo (And.intro zb zs)))))
      have e2 := x2.cell 2 rfl
      have f2 := x2.free 2
      clear z0 z1 z2 zb zo zs x0 x1 x2 y hown4 hb3 hge3 hsz4
      go_wp2_with fail
      refine NoPanic.normal ?_
      go_wp2
      clear e2 f2
      go_roundg g
      case measure => omega
      case rel =>
        obtain ⟨z0, z1, z2, zo, zb, zs⟩ := HX.out
        exact ⟨j + 1, a3, c3, by omega, by go_num, z0, z1, z2, zo, zb, zs⟩
end Go.Proofs.Ytmpihcencnkpbaa
