import Derived.Test.YtmpihcencnkpbaaM2
/-! The reference's count and most. -/
namespace Go.Proofs.Ytmpihcencnkpbaa
set_option linter.unusedSimpArgs false
set_option linter.unusedVariables false
open Go Go.RowKit

/-- A cell that stays. -/
def ClB (w : World) (b o : Nat) (v : Value) : Prop := w.cell? ⟨b, o, none⟩ = some v ∧ b < w.heap.size
theorem ClB.below {w w' : World} {b o : Nat} {v : Value} (h : ClB w b o v) (hb : Below w.heap.size w w') : ClB w' b o v :=
  ⟨(hb.cell (p := ⟨b, o, none⟩) h.2).trans h.1, by have := hb.size; have := h.2; omega⟩
/-- In how many of some sets a fault is. -/
def cntH (f : F3) (T : List (List F3)) : Nat := (T.filter fun s => hasF s f).length
theorem cntH_snoc (f : F3) (T : List (List F3)) (s : List F3) : cntH f (T ++ [s]) = cntH f T + if hasF s f = true then 1 else 0 := by
  unfold cntH
  rw [List.filter_append, List.length_append]
  congr 1
  cases h : hasF s f
  · simp [h]
  · simp [h]
theorem cntH_le (f : F3) (T : List (List F3)) : cntH f T ≤ T.length := List.length_filter_le _ _
set_option maxRecDepth 100000 in
set_option maxHeartbeats 3000000 in
theorem count_any (aT : Option Addr) (cT : Nat) (T : List (List F3)) (f : F3) (w : World) (hT : Rat w aT T) (hl : T.length ≤ 900000) : Calls Try.prog 69 #[.slice aT T.length cT, .agg #[.int .i64 f.k, .int .i64 f.a, .int .i64 f.b]] w fun e w' => e = .returned (.int .i64 ((cntH f T : Nat) : Int)) ∧ Below w.heap.size w w' := by
  obtain ⟨W, hW, hb, _, x0⟩ := boxes1 w #[.int .i64 f.k, .int .i64 f.a, .int .i64 f.b] 63
  replace hT := hT.below hb (Nat.le_refl _)
  have hhs := fun a c s V (h : Fz V a s) => Has_any a c s f V h
  obtain ⟨n, hn⟩ : ∃ n, n = T.length := ⟨_, rfl⟩
  rw [← hn] at hl ⊢
  have HN := hid hn
  have HCL := hid (fun j => Nat.le_trans (cntH_le f (T.take j)) (show (T.take j).length ≤ n by rw [List.length_take, hn]; omega))
  have HR := hid (show cntH f (T.take n) = cntH f T by rw [hn, List.take_length])
  generalize cntH f T = r at *
  clear hn
  have c0 := x0.cell 0 rfl; have c1 := x0.cell 1 rfl; have c2 := x0.cell 2 rfl
  go_enter Try.func69, Try.ntmps69
  go_wp2
  clear c0 c1 c2 hW
  go_loopg [5, 6] n (fun g v5 v6 wr => ∃ j : Nat, j + g = n ∧ v6 = .int .i64 (j : Int) ∧ v5 = .int .i64 ((cntH f (T.take j) : Nat) : Int) ∧ Below W.heap.size W wr)
  case atStart => exact ⟨0, by omega, rfl, rfl, Below.refl _ _⟩
  case round =>
    obtain ⟨j, hjg, rfl, rfl, hb1⟩ := hrel
    cases gk with
    | zero =>
      obtain rfl : j = n := by omega
      have hjI : ¬ (j : Int) < (j : Int) := by omega
      rw [HR.out]
      replace hb := hb.trans (hb1.mono hb.size)
      go_wp2
      go_ret
      exact ⟨rfl, hb⟩
    | succ g =>
      have hjn : j < n := by omega
      obtain ⟨bR, oR, s, a', c', rfl, hbl, hc, hsc, hfy, hmem, hgt, htk⟩ := (hT.below hb1 (Nat.le_refl _)).at (k := j) (by rw [← HN.out]; exact hjn)
      have hjI : (j : Int) < n := by omega
      have hz0 : (0 : Int) ≤ (j : Int) := by omega
      have hsn := cntH_snoc f (T.take j) s
      rw [← htk.out] at hsn
      have hcl := HCL.out j
      have hcc : ClB wr bR (oR + j) (.slice a' s.length c') := ⟨hc, hbl⟩
      have hfs := hfy.1
      have hh := hhs a' c' s
      obtain ⟨ls, hls⟩ : ∃ ls, ls = s.length := ⟨_, rfl⟩
      rw [← hls] at hcc hh
      obtain ⟨t, ht⟩ : ∃ t, t = cntH f (T.take j) := ⟨_, rfl⟩
      rw [← ht] at hsn hcl ⊢
      have hw1 : IntKind.i64.wrap ((t : Int) + 1) = ((t + 1 : Nat) : Int) := by rw [IntWalk.i64_in _ (by omega)]; omega
      have hwj : IntKind.i64.wrap ((j : Int) + 1) = ((j + 1 : Nat) : Int) := by rw [IntWalk.i64_in _ (by omega)]; omega
      have HSN := hid hsn
      have xr := x0.below hb1
      generalize hasF s f = z at *
      clear hc hsc hfy hmem hgt htk hls ht hsn hcl hbl
      go_upto_region 5 with fail
      have hbd := (Below.refl wr.heap.size wr).drew
      have S0 := (And.intro (xr.below hbd) (And.intro (hcc.below hbd) (hfs.below hbd (Nat.le_refl _))))
      replace hb1 := hb1.trans (hbd.mono hb1.size)
      clear hbd xr hcc hfs
      refine wp_region_head 5 (fun w' => (Bx w' w.heap.size #[.int .i64 f.k, .int .i64 f.a, .int .i64 f.b] 63) ∧ (ClB w' bR (oR + j) (.slice a' ls c')) ∧ (Fz w' a' s)) (by kernel_rfl) rfl ?_
      generalize wr.drew = Y0 at *
      refine HeadAt.take (i := 0) (.slice (some ⟨bR, oR, none⟩) n cT) rfl (by kernel_rfl) (.inl ⟨rfl, fun _ _ => by simp [go_sem]⟩) S0 ?_
      (try simp only [Act.put, List.getElem_toArray, List.getElem_cons_succ, List.getElem_cons_zero, List.setIfInBounds_toArray, List.set_cons_succ, List.set_cons_zero])
      refine HeadAt.take (i := 1) (.int .i64 (j : Int)) rfl (by kernel_rfl) (.inl ⟨rfl, fun _ _ => by simp [go_sem]⟩) S0 ?_
      (try simp only [Act.put, List.getElem_toArray, List.getElem_cons_succ, List.getElem_cons_zero, List.setIfInBounds_toArray, List.set_cons_succ, List.set_cons_zero])
      refine HeadAt.take (i := 2) (.pointer (some ⟨bR, oR + j, none⟩)) rfl (by kernel_rfl) (.inl ⟨rfl, fun w' z => ?_⟩) S0 ?_
      · (simp [go_sem, hjI, hz0])
      (try simp only [Act.put, List.getElem_toArray, List.getElem_cons_succ, List.getElem_cons_zero, List.setIfInBounds_toArray, List.set_cons_succ, List.set_cons_zero])
      refine HeadAt.take (i := 3) (.slice a' ls c') rfl (by kernel_rfl) (.inl ⟨rfl, fun w' z => ?_⟩) S0 ?_
      · (have z0 := z.2.1.1; simp [go_sem, z0])
      (try simp only [Act.put, List.getElem_toArray, List.getElem_cons_succ, List.getElem_cons_zero, List.setIfInBounds_toArray, List.set_cons_succ, List.set_cons_zero])
      refine HeadAt.take (i := 4) (.agg #[.int .i64 f.k, .int .i64 f.a, .int .i64 f.b]) rfl (by kernel_rfl) (.inl ⟨rfl, fun w' z => ?_⟩) S0 ?_
      · (have z0 := z.1.cell 0 rfl; have z1 := z.1.cell 1 rfl; have z2 := z.1.cell 2 rfl; simp [go_sem, z0, z1, z2])
      (try simp only [Act.put, List.getElem_toArray, List.getElem_cons_succ, List.getElem_cons_zero, List.setIfInBounds_toArray, List.set_cons_succ, List.set_cons_zero])
      refine HeadAt.done (by kernel_rfl) ?_
      (try simp only [Act.put, List.drop_succ_cons, List.drop_zero, List.getElem_toArray, List.getElem_cons_succ, List.getElem_cons_zero])
      go_wp2_with fail
      refine (hh _ S0.2.2).mono ?_
      rintro e V3 ⟨rfl, hb3⟩
      replace hb1 := hb1.trans (hb3.mono hb1.size)
      clear hb3 hh S0
      go_wp2_with fail
      refine NoPanic.normal ?_
      cases z
      · have hq := HSN.out
        have HQ := hid (show cntH f (T.take (j + 1)) = t by rw [hq]; rfl)
        clear hq HSN
        go_wp2
        go_roundg g
        case measure => omega
        case rel => exact ⟨j + 1, by omega, by go_num, by rw [HQ.out], hb1⟩
      · have hq := HSN.out
        have HQ := hid (show cntH f (T.take (j + 1)) = t + 1 by rw [hq]; rfl)
        clear hq HSN
        go_wp2
        go_roundg g
        case measure => omega
        case rel => exact ⟨j + 1, by omega, by go_num, by rw [HQ.out]; go_num, hb1⟩

/-- The greatest of some numbers, 0 at least. -/
def mxI (xs : List Int) : Int := xs.foldl max 0
theorem mxI_snoc (xs : List Int) (x : Int) : mxI (xs ++ [x]) = max (mxI xs) x := by simp [mxI, List.foldl_append]
set_option maxRecDepth 100000 in
set_option maxHeartbeats 3000000 in
theorem most_any (a : Option Addr) (c : Nat) (xs : List Int) (w : World) (hA : Ints w a xs) : Calls Try.prog 76 #[.slice a xs.length c] w fun e w' => e = .returned (.int .i64 (mxI xs)) ∧ Below w.heap.size w w' := by
  have hlen := hA.len
  obtain ⟨n, hn⟩ : ∃ n, n = xs.length := ⟨_, rfl⟩
  rw [← hn] at hlen ⊢
  have HN := hid hn
  have HR := hid (show mxI (xs.take n) = mxI xs by rw [hn, List.take_length])
  generalize mxI xs = r at *
  clear hn
  go_enter Try.func76, Try.ntmps76
  go_wp2
  go_loopg [3, 4] n (fun g v3 v4 wr => ∃ j : Nat, j + g = n ∧ v4 = .int .i64 (j : Int) ∧ v3 = .int .i64 (mxI (xs.take j)) ∧ wr = w)
  case atStart => exact ⟨0, by omega, rfl, rfl, rfl⟩
  case round =>
    obtain ⟨j, hjg, rfl, rfl, rfl⟩ := hrel
    cases gk with
    | zero =>
      obtain rfl : j = n := by omega
      have hjI : ¬ (j : Int) < (j : Int) := by omega
      rw [HR.out]
      go_wp2
      go_ret
      exact ⟨rfl, Below.refl _ _⟩
    | succ g =>
      have hjn : j < n := by omega
      obtain ⟨b1, o1, x, rfl, _, hc1, _, _, hg1, _⟩ := hA.at (k := j) (by rw [← HN.out]; exact hjn)
      have hjI : (j : Int) < n := by omega
      have hj0 : (0 : Int) ≤ (j : Int) := by omega
      have htk : xs.take (j + 1) = xs.take j ++ [x] := by rw [List.take_add_one, hg1.out]; rfl
      have HQ := hid (show mxI (xs.take (j + 1)) = max (mxI (xs.take j)) x by rw [htk, mxI_snoc])
      generalize mxI (xs.take j) = t at *
      clear htk hg1
      go_wp2
      go_roundg g
      case measure => omega
      case rel => exact ⟨j + 1, by omega, by go_num, by rw [HQ.out], rfl⟩
end Go.Proofs.Ytmpihcencnkpbaa
