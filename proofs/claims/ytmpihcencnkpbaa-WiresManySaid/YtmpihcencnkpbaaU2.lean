import Derived.Test.YtmpihcencnkpbaaM2
import Derived.Test.YtmpihcencnkpbaaTW
import Derived.Test.YtmpihcencnkpbaaTK
/-! The reference's sets. -/
namespace Go.Proofs.Ytmpihcencnkpbaa
set_option linter.unusedSimpArgs false
set_option linter.unusedVariables false
open Go Go.RowKit

/-- What is still to come of the sets that begin with some. -/
def rstM : Nat → List F3 → List F3 → List (List F3)
  | 0, _, _ => []
  | m + 1, fi, Y => rsT (rsL m) fi Y
theorem rsL_cut (m : Nat) (fi Y : List F3) : rsL m fi Y = [fi] ++ rstM m fi Y := by cases m <;> rfl
theorem rstM_nil (m : Nat) (fi : List F3) : rstM m fi [] = [] := by cases m <;> rfl
theorem rstM_cons (m : Nat) (fi : List F3) (x : F3) (r : List F3) : rstM (m + 1) fi (x :: r) = (if rfit fi x = true then rsL m (fi ++ [x]) r else []) ++ rstM (m + 1) fi r := rfl
theorem rsT_len {R : List F3 → List F3 → List (List F3)} {c : Nat} (h : ∀ fi Y, Y.length ≤ 60 → (R fi Y).length ≤ c) (fi : List F3) : ∀ Y : List F3, Y.length ≤ 60 → (rsT R fi Y).length ≤ Y.length * c
  | [], _ => by simp [rsT]
  | x :: r, hl => by
    rw [rsT, List.length_append, List.length_cons, Nat.succ_mul]
    rw [List.length_cons] at hl
    have h1 := rsT_len h fi r (by omega)
    have h2 : (if rfit fi x = true then R (fi ++ [x]) r else []).length ≤ c := by
      split
      · exact h _ _ (by omega)
      · simp
    omega
theorem rsL_len : ∀ (m : Nat) (fi Y : List F3), Y.length ≤ 60 → (rsL m fi Y).length ≤ 61 ^ m
  | 0, _, _, _ => by simp [rsL]
  | m + 1, fi, Y, hl => by
    rw [rsL, List.length_cons, Nat.pow_succ]
    have h1 := rsT_len (fun f Y h => rsL_len m f Y h) fi Y hl
    have h2 : Y.length * 61 ^ m ≤ 60 * 61 ^ m := Nat.mul_le_mul_right _ hl
    have h3 : 1 ≤ 61 ^ m := Nat.pow_pos (by omega)
    omega
theorem rsL_len3 {m : Nat} (hm : m ≤ 3) (fi Y : List F3) (hl : Y.length ≤ 60) : (rsL m fi Y).length ≤ 226981 :=
  Nat.le_trans (rsL_len m fi Y hl) (Nat.le_trans (Nat.pow_le_pow_right (by omega) hm) (by decide))
theorem rfit_snoc (s : List F3) (g x : F3) : rfit (s ++ [g]) x = (rfit s x && !rclB g x) := by simp [rfit]
theorem drop_at {F : List F3} {i : Nat} {x : F3} (h : F[i]? = some x) : F.drop i = x :: F.drop (i + 1) := by
  obtain ⟨h1, h2⟩ := List.getElem?_eq_some_iff.1 h
  rw [List.drop_eq_getElem_cons h1, h2]
/-- While the literals and the first append are made. -/
structure RsI (fi : List F3) (x : F3) (Y : World) (s : Array Bool) (u : Nat → Value) (w : World) : Prop where
  c2 : s.getD 2 false = true → s.getD 4 false = false → ∃ b, u 2 = .slice (some ⟨b, 0, none⟩) 0 0 ∧ w.ownsRow Y.heap.size 63 3 (.slice (some ⟨b, 0, none⟩) 0 0) 0 [] ∧ b < w.heap.size
  c4 : s.getD 4 false = true → w.ownsRow Y.heap.size 63 3 (u 4) fi.length (fcells fi)
  c9 : s.getD 9 false = true → ∃ b, u 9 = .slice (some ⟨b, 0, none⟩) 1 1 ∧ Bx w b #[.int .i64 x.k, .int .i64 x.a, .int .i64 x.b] 63
  ne : s.getD 2 false = true → s.getD 4 false = false → s.getD 9 false = true → ∀ b b', u 2 = .slice (some ⟨b, 0, none⟩) 0 0 → u 9 = .slice (some ⟨b', 0, none⟩) 1 1 → b ≠ b'
  bl : Below Y.heap.size Y w
  sz : 10 < s.size
theorem updS {u : Nat → Value} {i : Nat} {v : Value} : updU u i v i = v := by unfold updU; rw [if_pos rfl]
theorem updN {u : Nat → Value} {i j : Nat} {v : Value} (h : j ≠ i) : updU u i v j = u j := by unfold updU; rw [if_neg h]
theorem sd_no {s : Array Bool} {i j : Nat} (h : i ≠ j) (k : (s.setIfInBounds i true).getD j false = false) : s.getD j false = false := by
  rw [getD_set_ne false h] at k; exact k
theorem RsI.two {fi : List F3} {x : F3} {Y : World} {s : Array Bool} {u : Nat → Value} {w : World} (h : RsI fi x Y s u w) : RsI fi x Y (s.setIfInBounds 2 true) (updU u 2 (.slice (some ⟨w.heap.size, 0, none⟩) 0 0)) (w.alloc (.cells #[] 63)) := by
  have hb := below_one (w := w) (.cells #[] 63)
  refine ⟨fun _ _ => ⟨_, updS, own_base (own_lit0 w 63 3) h.bl.size, by simp⟩, fun k => ?_, fun k => ?_, fun _ _ k b b' e e' => ?_, h.bl.trans (hb.mono h.bl.size), by simpa using h.sz⟩
  · rw [updN (by omega)]; exact own_below2 (h.c4 (sd_of (by omega) k)) hb
  · rw [updN (by omega)]
    obtain ⟨b, e, hx⟩ := h.c9 (sd_of (by omega) k)
    exact ⟨b, e, hx.below hb⟩
  · rw [updS] at e
    rw [updN (by omega)] at e'
    obtain ⟨b2, e2, hx⟩ := h.c9 (sd_of (by omega) k)
    rw [e2] at e'
    have := hx.lt
    simp only [Value.slice.injEq, Option.some.injEq, Addr.mk.injEq, and_true] at e e'
    omega
theorem RsI.nine {fi : List F3} {x : F3} {Y : World} {s : Array Bool} {u : Nat → Value} {w : World} (h : RsI fi x Y s u w) : RsI fi x Y (s.setIfInBounds 9 true) (updU u 9 (.slice (some ⟨w.heap.size, 0, none⟩) 1 1)) (w.alloc (.cells #[.int .i64 x.k, .int .i64 x.a, .int .i64 x.b] 63)) := by
  have hb := below_one (w := w) (.cells #[.int .i64 x.k, .int .i64 x.a, .int .i64 x.b] 63)
  refine ⟨fun k k2 => ?_, fun k => ?_, fun _ => ⟨_, updS, Bx.new _ _ _⟩, fun k k2 _ b b' e e' => ?_, h.bl.trans (hb.mono h.bl.size), by simpa using h.sz⟩
  · rw [updN (by omega)]
    obtain ⟨b, e, ho, hl⟩ := h.c2 (sd_of (by omega) k) (sd_no (by omega) k2)
    exact ⟨b, e, own_below2 ho hb, Nat.lt_of_lt_of_le hl hb.size⟩
  · rw [updN (by omega)]; exact own_below2 (h.c4 (sd_of (by omega) k)) hb
  · rw [updN (by omega)] at e
    rw [updS] at e'
    obtain ⟨b2, e2, _, hl⟩ := h.c2 (sd_of (by omega) k) (sd_no (by omega) k2)
    rw [e2] at e
    simp only [Value.slice.injEq, Option.some.injEq, Addr.mk.injEq, and_true] at e e'
    omega
theorem RsI.four {fi : List F3} {x : F3} {Y : World} {s : Array Bool} {u : Nat → Value} {w w' : World} (h : RsI fi x Y s u w) {b : Nat} (e : u 2 = .slice (some ⟨b, 0, none⟩) 0 0) (h2 : s.getD 2 false = true) (h4 : s.getD 4 false = false) {v : Value}
    (ho : w'.ownsRow Y.heap.size 63 3 v fi.length (fcells fi)) (hg : w.grownBy w' (some b)) (hbY : Y.heap.size ≤ b) : RsI fi x Y (s.setIfInBounds 4 true) (updU u 4 v) w' := by
  have h4' : (s.setIfInBounds 4 true).getD 4 false = true := by
    have := h.sz
    simp [Array.getD, show 4 < s.size by omega]
  refine ⟨fun _ k => ?_, fun _ => ?_, fun k => ?_, fun _ k => ?_, h.bl.grown hg h.bl.size (fun k e => by cases e; exact hbY), by simpa using h.sz⟩
  · rw [h4'] at k; cases k
  · rw [updS]; exact ho
  · rw [updN (by omega)]
    obtain ⟨b', e', hx⟩ := h.c9 (sd_of (by omega) k)
    exact ⟨b', e', bx_gro hx hg (fun q => h.ne h2 h4 (sd_of (by omega) k) b b' e e' q.symm)⟩
  · rw [h4'] at k; cases k

set_option maxRecDepth 100000 in
set_option maxHeartbeats 8000000 in
theorem rsets_any (aA : Option Addr) (cA : Nat) (F : List F3) (hF60 : F.length ≤ 60) : ∀ (m : Nat), m ≤ 3 → ∀ (fi : List F3) (aF : Option Addr) (cF fr : Nat) (w : World), Fz w aA F → Fy w aF fi → fi.length ≤ cF → fr ≤ F.length → fi.length + m ≤ 100 →
    Calls Try.prog 90 #[.slice aA F.length cA, .slice aF fi.length cF, .int .i64 (fr : Int), .int .i64 (m : Int)] w (LLP (rsL m fi (F.drop fr)) w) := by
  intro m
  induction m using Nat.strongRecOn with
  | ind m IH => ?_
  intro hm fi aF cF fr w hA hFy hcF hfr hlm
  obtain ⟨i0, hi0, iz0, iz1, iz2⟩ := info_parts info63
  obtain ⟨j0, hj0, jz0, jz1, jz2⟩ := info_parts info25
  obtain ⟨T, hT⟩ : ∃ T, T = rsL m fi (F.drop fr) := ⟨_, rfl⟩
  have hTl : T.length ≤ 226981 := by rw [hT]; exact rsL_len3 hm _ _ (by rw [List.length_drop]; omega)
  have HT0 := hid (show T = [fi] ++ rstM m fi (F.drop fr) by rw [hT, rsL_cut])
  rw [← hT]
  have HIH := hid IH
  clear hT IH
  obtain ⟨n, hn⟩ : ∃ n, n = F.length := ⟨_, rfl⟩
  have HN := hid hn
  rw [← hn] at hF60 hfr ⊢
  obtain ⟨nf, hnf⟩ : ∃ nf, nf = fi.length := ⟨_, rfl⟩
  have HNF := hid hnf
  rw [← hnf] at hcF hlm ⊢
  clear hn hnf
  have hsz0 := below_one (w := w) (.cells #[.slice aF nf cF] 25)
  have hown0 := own_litN w 25 (.slice aF nf cF)
  have hrw0 : Rws (w.alloc (.cells #[.slice aF nf cF] 25)) [.slice aF nf cF] [fi] := by
    have := Rws.single (hFy.below hsz0 (Nat.le_refl _)) (c := cF) (by rw [← HNF.out]; exact hcF)
    rw [← HNF.out] at this; exact this
  have HX0 := hid (And.intro hsz0 (And.intro hown0 hrw0))
  clear hsz0 hown0 hrw0
  go_enter Try.func90, Try.ntmps90
  go_wp2
  obtain ⟨hsz0, hown0, hrw0⟩ := HX0.out
  clear HX0
  go_loopw [9, 10, 11, 12] (fun v9 v10 v11 v12 wr => ∃ (i p : Nat) (a : Option Addr) (c : Nat) (vs : List Value) (SS : List (List F3)), i ≤ n ∧ Hid (p = SS.length) ∧ v10 = .int .i64 (i : Int) ∧ v9 = .slice a p c ∧ wr.ownsRow w.heap.size 25 1 (.slice a p c) p vs ∧ Below w.heap.size w wr ∧ Rws wr vs SS ∧ Hid (T = SS ++ rstM m fi (F.drop i))) (fun _ v10 _ _ _ => n - (intOf v10).toNat)
  case atStart => exact ⟨fr, 1, _, 1, _, [fi], hfr, hid rfl, rfl, rfl, hown0, hsz0, hrw0, HT0⟩
  case round =>
    clear hsz0 hown0 hrw0
    obtain ⟨i, p, a, c, vs, SS, hi, HP, rfl, rfl, hown, hb, hrw, HT⟩ := hrel
    obtain ⟨wo, rfl⟩ : ∃ wo : World, wo = wr := ⟨_, rfl⟩
    by_cases hil : i < n ∧ 0 < m
    · obtain ⟨hil, hm0⟩ := hil
      obtain ⟨m', hm'⟩ : ∃ m', m = m' + 1 := ⟨m - 1, by omega⟩
      have hFr := hFy.below hb (Nat.le_refl _)
      obtain ⟨b, off, x, rfl, hbl, hcx, hxi, _, hgx, _, _⟩ := hA.at (k := i) (by rw [← HN.out]; exact hil)
      have hxw0 : AtB w b (off + i * 3) x := ⟨hcx, hbl⟩
      have hx := hxw0.below hb
      have HXI := hid hxi
      have HT2 := hid (show T = SS ++ ((if rfit fi x = true then rsL m' (fi ++ [x]) (F.drop (i + 1)) else []) ++ rstM m fi (F.drop (i + 1))) by
        rw [HT.out, drop_at hgx.out, hm', rstM_cons])
      have hiI : (i : Int) < (n : Int) := by omega
      have hi0' : (0 : Int) ≤ (i : Int) := by omega
      have hmI : (0 : Int) < (m : Int) := by omega
      have hmz1 : m' < m := by omega
      have hmz2 : m ≤ m' + 1 := by omega
      have HR := hid (show rfit (fi.take nf) x = rfit fi x by rw [HNF.out, List.take_length])
      clear hcx hbl hxi hgx HT hm'
      go_wp2
      go_loopg [11, 12] nf (fun g2 v11 v12 wi => ∃ k : Nat, k + g2 = nf ∧ v12 = .int .i64 (k : Int) ∧ v11 = .bool (rfit (fi.take k) x) ∧ Below wo.heap.size wo wi)
      case atStart => exact ⟨0, by omega, rfl, rfl, Below.refl _ _⟩
      case round =>
        obtain ⟨k, hkg, rfl, rfl, hbi⟩ := hrel
        cases gk with
        | zero =>
          obtain rfl : k = nf := by omega
          have hkI : ¬ (k : Int) < (k : Int) := by omega
          rw [HR.out]
          clear HR
          obtain ⟨r, hr⟩ : ∃ r, r = rfit fi x := ⟨_, rfl⟩
          rw [← hr]
          cases r with
          | false =>
            have HT3 := hid (show T = SS ++ rstM m fi (F.drop (i + 1)) by
              have := HT2.out
              rw [← hr] at this
              simpa using this)
            replace hown := own_below2 hown hbi
            replace hrw := hrw.below hbi (Nat.le_refl _)
            replace hb := hb.trans (hbi.mono hb.size)
            clear hr HT2 hbi hx hFr HXI HIH hxw0
            go_wp2
            go_roundw
            case rel => exact ⟨i + 1, p, a, c, vs, SS, by omega, HP, by go_num, rfl, hown, hb, hrw, HT3⟩
            case measure => simp [intOf]; omega
          | true =>
            have HT3 := hid (show T = (SS ++ rsL m' (fi ++ [x]) (F.drop (i + 1))) ++ rstM m fi (F.drop (i + 1)) by
              have := HT2.out
              rw [← hr] at this
              simpa using this)
            clear hr HT2
            obtain ⟨LL, hLL⟩ : ∃ LL, LL = rsL m' (fi ++ [x]) (F.drop (i + 1)) := ⟨_, rfl⟩
            have HLL := hid hLL
            rw [← hLL] at HT3
            have hpl : p + LL.length ≤ 226981 := by
              have := congrArg List.length HT3.out
              simp only [List.length_append] at this
              have := HP.out
              omega
            clear hLL hx hFr
            have hw1 : IntKind.i64.wrap ((i : Int) + 1) = ((i + 1 : Nat) : Int) := by rw [IntWalk.i64_in _ (by omega)]; omega
            have hw2 : IntKind.i64.wrap ((m : Int) - 1) = (m' : Int) := by rw [IntWalk.i64_in _ (by omega)]; omega
            have hw3 : IntKind.i64.wrap (m' : Int) = (m' : Int) := IntWalk.i64_in _ (by omega)
            go_upto_region 11 with fail
            have hbd := (Below.refl wr.heap.size wr).drew
            replace hown := own_below2 (own_below2 hown hbi) hbd
            replace hrw := (hrw.below hbi (Nat.le_refl _)).below hbd (Nat.le_refl _)
            replace hb := (hb.trans (hbi.mono hb.size)).trans (hbd.mono (hb.trans (hbi.mono hb.size)).size)
            clear hbi hbd
            refine wp_region_head 17 (fun w' => Below w.heap.size w w') (by kernel_rfl) rfl ?_
            generalize wr.drew = Y0 at *
            have S0 := hb
            refine HeadAt.take (i := 0) (.slice a p c) rfl (by kernel_rfl) (.inl ⟨rfl, fun _ _ => by simp [go_sem]⟩) S0 ?_
            (try simp only [Act.put, List.getElem_toArray, List.getElem_cons_succ, List.getElem_cons_zero, List.setIfInBounds_toArray, List.set_cons_succ, List.set_cons_zero])
            refine HeadAt.take (i := 1) (.slice (some ⟨b, off, none⟩) n cA) rfl (by kernel_rfl) (.inl ⟨rfl, fun _ _ => by simp [go_sem]⟩) S0 ?_
            (try simp only [Act.put, List.getElem_toArray, List.getElem_cons_succ, List.getElem_cons_zero, List.setIfInBounds_toArray, List.set_cons_succ, List.set_cons_zero])
            refine HeadAt.take (i := 3) (.slice aF k cF) rfl (by kernel_rfl) (.inl ⟨rfl, fun _ _ => by simp [go_sem]⟩) S0 ?_
            (try simp only [Act.put, List.getElem_toArray, List.getElem_cons_succ, List.getElem_cons_zero, List.setIfInBounds_toArray, List.set_cons_succ, List.set_cons_zero])
            refine HeadAt.take (i := 5) (.slice (some ⟨b, off, none⟩) n cA) rfl (by kernel_rfl) (.inl ⟨rfl, fun _ _ => by simp [go_sem]⟩) S0 ?_
            (try simp only [Act.put, List.getElem_toArray, List.getElem_cons_succ, List.getElem_cons_zero, List.setIfInBounds_toArray, List.set_cons_succ, List.set_cons_zero])
            refine HeadAt.take (i := 6) (.int .i64 (i : Int)) rfl (by kernel_rfl) (.inl ⟨rfl, fun _ _ => by simp [go_sem]⟩) S0 ?_
            (try simp only [Act.put, List.getElem_toArray, List.getElem_cons_succ, List.getElem_cons_zero, List.setIfInBounds_toArray, List.set_cons_succ, List.set_cons_zero])
            refine HeadAt.take (i := 7) (.pointer (some ⟨b, off + i * 3, none⟩)) rfl (by kernel_rfl) (.inl ⟨rfl, fun w' z => ?_⟩) S0 ?_
            · (simp [go_sem, hiI, hi0'])
            (try simp only [Act.put, List.getElem_toArray, List.getElem_cons_succ, List.getElem_cons_zero, List.setIfInBounds_toArray, List.set_cons_succ, List.set_cons_zero])
            refine HeadAt.take (i := 8) (.agg #[.int .i64 x.k, .int .i64 x.a, .int .i64 x.b]) rfl (by kernel_rfl) (.inl ⟨rfl, fun w' z => ?_⟩) S0 ?_
            · (have z0 := (hxw0.below z).1.1; have z1 := (hxw0.below z).1.2.1; have z2 := (hxw0.below z).1.2.2; simp [go_sem, z0, z1, z2])
            (try simp only [Act.put, List.getElem_toArray, List.getElem_cons_succ, List.getElem_cons_zero, List.setIfInBounds_toArray, List.set_cons_succ, List.set_cons_zero])
            refine HeadAt.take (i := 11) (.int .i64 (i : Int)) rfl (by kernel_rfl) (.inl ⟨rfl, fun _ _ => by simp [go_sem]⟩) S0 ?_
            (try simp only [Act.put, List.getElem_toArray, List.getElem_cons_succ, List.getElem_cons_zero, List.setIfInBounds_toArray, List.set_cons_succ, List.set_cons_zero])
            refine HeadAt.take (i := 12) (.int .i64 ((i + 1 : Nat) : Int)) rfl (by kernel_rfl) (.inl ⟨rfl, fun w' z => ?_⟩) S0 ?_
            · (simp [go_sem, hw1])
            (try simp only [Act.put, List.getElem_toArray, List.getElem_cons_succ, List.getElem_cons_zero, List.setIfInBounds_toArray, List.set_cons_succ, List.set_cons_zero])
            refine HeadAt.take (i := 13) (.int .i64 (m : Int)) rfl (by kernel_rfl) (.inl ⟨rfl, fun _ _ => by simp [go_sem]⟩) S0 ?_
            (try simp only [Act.put, List.getElem_toArray, List.getElem_cons_succ, List.getElem_cons_zero, List.setIfInBounds_toArray, List.set_cons_succ, List.set_cons_zero])
            refine HeadAt.take (i := 14) (.int .i64 (m' : Int)) rfl (by kernel_rfl) (.inl ⟨rfl, fun w' z => ?_⟩) S0 ?_
            · (simp [go_sem, hw2, hw3])
            (try simp only [Act.put, List.getElem_toArray, List.getElem_cons_succ, List.getElem_cons_zero, List.setIfInBounds_toArray, List.set_cons_succ, List.set_cons_zero])
            refine HeadAt.rg4 (f0 := 3) [2, 4, 9] 3 (fun u => { tmps := #[.slice (some ⟨b, off, none⟩) n cA, .slice aF k cF, .int .i64 ((fr) : Int), .int .i64 (m : Int), undef, undef, undef, undef, .slice none 0 0, .slice a p c, .int .i64 ((i) : Int), .bool true, .int .i64 ((k) : Int), .slice aF k cF, .slice (some ⟨w.heap.size, 0, none⟩) 1 1, .int .i64 ((fr) : Int), .int .i64 ((i) : Int), .slice (some ⟨b, off, none⟩) n cA, .int .i64 ((n) : Int), .bool true, .bool true, .int .i64 (m : Int), .bool true, .bool true, u24, u25, .int .i64 ((k) : Int), .slice aF k cF, .int .i64 ((k) : Int), .bool false, u30, u31, u32, u33, u34, u35, u36, u37, u38, u39, u40, u41, u42, u43, u44, .bool true, .slice a p c, .slice (some ⟨b, off, none⟩) n cA, u 2, .slice aF k cF, u 4, .slice (some ⟨b, off, none⟩) n cA, .int .i64 ((i) : Int), .pointer (some ⟨b, off + i * 3, none⟩), .agg #[.int .i64 x.k, .int .i64 x.a, .int .i64 x.b], u 9, u56, .int .i64 ((i) : Int), .int .i64 ((i + 1 : Nat) : Int), .int .i64 (m : Int), .int .i64 ((m') : Int), u61, u62, undef], defers := [] }) (RsI fi x Y0) (updU (updU (updU (fun _ => undef) 2 u48) 4 u50) 9 u55) (by kernel_rfl) ?step ?done S0 ⟨fun h => (by cases h), fun h => (by cases h), fun h => (by cases h), fun h => (by cases h), Below.refl _ _, by decide⟩
            case step =>
              intro q hq o ho s u V hS hI hs0 hpre
              simp only [List.mem_cons, List.not_mem_nil, or_false] at hq
              generalize hK : Upto _ _ = K0
              rcases hq with rfl | rfl | rfl
              · cases ho
                go_wp2_with fail
                subst hK
                exact ⟨_, (by simp [updU] <;> omega), hS.trans ((below_one _).mono hS.size), hI.two⟩
              · have h2 := hpre 2 (by kernel_rfl)
                obtain ⟨b2, e2, ho2, hl2⟩ := hI.c2 h2 hs0
                have hge2 := own_ge2 ho2
                have hY2 : Y0.heap.size ≤ b2 := hge2 b2 rfl
                have hbs := hI.bl.size
                have hcl := (hFy.1.below hS (Nat.le_refl _)).cls
                have hfl : (fcells fi).length = k * 3 := by rw [fcells_len, ← HNF.out]
                have hfo := fcells_one fi
                have HI := hid hI
                have HS := hid hS
                clear hpre hI hS
                cases ho
                rw [show u 2 = _ from e2]
                (refine wpList_app rfl (.tmp 48) (.tmp 49) 25 rfl Y0.heap.size 63 i0 (.agg #[.int .i64 0, .int .i64 0, .int .i64 0]) 3 24 under25 hi0 iz0 iz1 iz2 rfl (by decide) _ 0 [] rfl ho2 aF k cF (fcells fi) rfl hfl hcl hfo (by unfold maxLen; omega) (by omega) hbs ?_; intro v4 W4 hown4 hg4)
                have hI := HI.out
                rw [Nat.zero_add, List.nil_append, HNF.out] at hown4
                have hI4 := hI.four e2 h2 hs0 hown4 hg4 hY2
                have HI4 := hid (And.intro (hb.trans (hI4.bl.mono hb.size)) hI4)
                clear hI hI4 hown4 hg4 HI HS hcl hfl hfo hge2 ho2
                go_wp2_with fail
                subst hK
                exact ⟨_, (by simp [updU, e2] <;> omega), HI4.out.1, HI4.out.2⟩
              · cases ho
                go_wp2_with fail
                subst hK
                exact ⟨_, (by simp [updU] <;> omega), hS.trans ((below_one _).mono hS.size), hI.nine⟩
            case done =>
              clear S0
              intro u V hS hI
              have own4 := hI.c4 rfl
              obtain ⟨b9, e9, x9⟩ := hI.c9 rfl
              have hbl := hI.bl
              rw [← HNF.out] at own4
              obtain ⟨a4, c4, e4⟩ := own_slice2 own4
              rw [e4] at own4
              simp only [e4, e9]
              clear hS hI e4 e9
              generalize u 2 = r2
              have hcl9 := Cls.of_bx x9
              have hge4 := own_ge2 own4
              have hbs4 := hbl.size
              (try simp only [Act.put, List.getElem_toArray, List.getElem_cons_succ, List.getElem_cons_zero, List.setIfInBounds_toArray, List.set_cons_succ, List.set_cons_zero])
              refine HeadAt.one (i := 10) rfl (by kernel_rfl) ?_
              generalize hK : Upto _ _ = K0
              (try simp only [Act.put, List.getElem_toArray, List.getElem_cons_succ, List.getElem_cons_zero, List.setIfInBounds_toArray, List.set_cons_succ, List.set_cons_zero])
              go_wp2_with (at_builtin; refine wpList_app rfl (.tmp 50) (.tmp 55) 25 rfl Y0.heap.size 63 i0 (.agg #[.int .i64 0, .int .i64 0, .int .i64 0]) 3 24 under25 hi0 iz0 iz1 iz2 rfl (by decide) (.slice a4 k c4) k (fcells fi) rfl own4 (some ⟨b9, 0, none⟩) 1 1 (fcells [x]) rfl rfl hcl9 (fcells_one [x]) (by unfold maxLen; omega) (by omega) hbs4 ?_; intro v5 W5 hown5 hg5)
              have hb5 : Below Y0.heap.size Y0 W5 := hbl.grown hg5 hbs4 hge4
              rw [← fcells_app] at hown5
              obtain ⟨a5, c5, rfl⟩ := own_slice2 hown5
              have hl5 : (fi ++ [x]).length = k + 1 := by rw [List.length_append, ← HNF.out]; rfl
              have hcap5 := own_cap hown5
              have hfy5 : Fy W5 a5 (fi ++ [x]) := by
                rw [← hl5] at hown5
                exact Fy.of_own hown5 (by omega) (fun f hf => by
                  rcases List.mem_append.1 hf with h | h
                  · exact hFy.1.2.1 f h
                  · rw [List.mem_singleton.1 h]; exact HXI.out)
              have S1 : Below w.heap.size w W5 := hb.trans (hb5.mono hb.size)
              clear hown5 hg5 hcl9 x9 own4 hge4 hbs4 hbl
              subst hK
              refine ⟨S1, ?_⟩
              (try simp only [Act.put, List.getElem_toArray, List.getElem_cons_succ, List.getElem_cons_zero, List.setIfInBounds_toArray, List.set_cons_succ, List.set_cons_zero])
              refine HeadAt.one (i := 15) rfl (by kernel_rfl) ?_
              generalize hK : Upto _ _ = K0
              (try simp only [Act.put, List.getElem_toArray, List.getElem_cons_succ, List.getElem_cons_zero, List.setIfInBounds_toArray, List.set_cons_succ, List.set_cons_zero])
              have ihc := HIH.out m' (by omega) (by omega) (fi ++ [x]) a5 c5 (i + 1) W5 (hA.below S1 (Nat.le_refl _)) hfy5 (by rw [hl5]; exact hcap5) (by rw [← HN.out]; omega) (by rw [hl5]; omega)
              rw [hl5, ← HN.out, ← HLL.out] at ihc
              clear hl5 hfy5
              go_wp2_with fail
              refine ihc.mono ?_
              rintro e W6 ⟨hb6, a6, c6, rfl, ⟨us, hcl6, hrw6⟩, _⟩
              go_wp2_with fail
              have hb56 : Below Y0.heap.size Y0 W6 := hb5.trans (hb6.mono hb5.size)
              have S2 : Below w.heap.size w W6 := hb.trans (hb56.mono hb.size)
              clear ihc hb5 hb6 S1 hcap5
              subst hK
              refine ⟨S2, ?_⟩
              (try simp only [Act.put, List.getElem_toArray, List.getElem_cons_succ, List.getElem_cons_zero, List.setIfInBounds_toArray, List.set_cons_succ, List.set_cons_zero])
              refine HeadAt.one (i := 16) rfl (by kernel_rfl) ?_
              generalize hK : Upto _ _ = K0
              (try simp only [Act.put, List.getElem_toArray, List.getElem_cons_succ, List.getElem_cons_zero, List.setIfInBounds_toArray, List.set_cons_succ, List.set_cons_zero])
              have hown6 := own_below2 hown hb56
              have hrwo := hrw.below hb56 (Nat.le_refl _)
              have hge := own_ge2 hown6
              have hoth := Oth.of_own hown6
              have hsz := S2.size
              have hul := hrw6.1
              have huo := hrw6.one
              go_wp2_with (at_builtin; refine wpList_appAt rfl (.tmp 46) (.tmp 61) 67 rfl w.heap.size 25 j0 (.slice none 0 0) 1 24 under67 hj0 jz0 jz1 jz2 rfl (by decide) (.slice a p c) p vs rfl hown6 a6 LL.length c6 us rfl (by omega) hcl6 huo (by unfold maxLen; omega) (by omega) hsz ?_; intro v7 W7 hown7 hg7 hat)
              obtain ⟨a7, c7, rfl⟩ := own_slice2 hown7
              have hb7 := S2.grown hg7 hsz hge
              have hrw7 : Rws W7 (vs ++ us) (SS ++ LL) := (hrwo.gro hg7 hoth).app (hrw6.gro hg7 hoth)
              have hq7 := hid (show p + LL.length = (SS ++ LL).length by rw [List.length_append, HP.out])
              have HX := hid (And.intro hown7 (And.intro hrw7 hb7))
              clear hown7 hrw7 hown6 hrwo hge hoth hsz hul huo hg7 hat hcl6 hrw6 hb56 S2 hown hrw hb
              subst hK
              refine ⟨HX.out.2.2, ?_⟩
              (try simp only [Act.put, List.getElem_toArray, List.getElem_cons_succ, List.getElem_cons_zero, List.setIfInBounds_toArray, List.set_cons_succ, List.set_cons_zero])
              refine HeadAt.done (by kernel_rfl) ?_
              (try simp only [Act.put, List.drop_succ_cons, List.drop_zero, List.getElem_toArray, List.getElem_cons_succ, List.getElem_cons_zero])
              go_wp2_with fail
              refine NoPanic.normal ?_
              go_wp2
              go_roundw
              case rel =>
                obtain ⟨hown, hrw, hb⟩ := HX.out
                exact ⟨i + 1, p + LL.length, a7, c7, vs ++ us, SS ++ LL, by omega, hq7, by go_num, rfl, hown, hb, hrw, HT3⟩
              case measure => simp [intOf]; omega
        | succ g2 =>
          have hkn : k < k + (g2 + 1) := by omega
          have hkz : k < nf := by omega
          clear hkn
          obtain ⟨b1, o1, y, rfl, hbl1, hcy, _, _, _, _, htk⟩ := (hFr.1.below hbi (Nat.le_refl _)).at (k := k) (by rw [← HNF.out]; exact hkz)
          have hy : AtB wr b1 (o1 + k * 3) y := ⟨hcy, hbl1⟩
          have hxw := hx.below hbi
          have hkI : (k : Int) < (nf : Int) := by omega
          have hk0 : (0 : Int) ≤ (k : Int) := by omega
          have hsn := rfit_snoc (fi.take k) y x
          rw [← htk.out] at hsn
          have HSN := hid hsn
          have hrc := fun V => rclash_any y x V
          generalize rfit (fi.take k) x = t at *
          clear hsn hcy hbl1 htk
          cases t with
          | false =>
            have HQ := hid (show rfit (fi.take (k + 1)) x = false by rw [HSN.out]; rfl)
            clear hrc
            go_upto_region 9 with fail
            have hbd := (Below.refl wr.heap.size wr).drew
            have S0 := (And.intro (hy.below hbd) (hxw.below hbd))
            replace hbi := hbi.trans (hbd.mono hbi.size)
            clear hbd hy hxw
            refine wp_region_head 13 (fun w' => (AtB w' b1 (o1 + k * 3) y) ∧ (AtB w' b (off + i * 3) x)) (by kernel_rfl) rfl ?_
            generalize wr.drew = Y0 at *
            refine HeadAt.take (i := 0) (.bool false) rfl (by kernel_rfl) (.inl ⟨rfl, fun _ _ => by simp [go_sem]⟩) S0 ?_
            (try simp only [Act.put, List.getElem_toArray, List.getElem_cons_succ, List.getElem_cons_zero, List.setIfInBounds_toArray, List.set_cons_succ, List.set_cons_zero])
            refine HeadAt.take (i := 1) (.bool false) rfl (by kernel_rfl) (.inl ⟨rfl, fun _ _ => by simp [go_sem]⟩) S0 ?_
            (try simp only [Act.put, List.getElem_toArray, List.getElem_cons_succ, List.getElem_cons_zero, List.setIfInBounds_toArray, List.set_cons_succ, List.set_cons_zero])
            refine HeadAt.take (i := 2) undef rfl (by kernel_rfl) (.inr ⟨by kernel_rfl, rfl⟩) S0 ?_
            (try simp only [Act.put, List.getElem_toArray, List.getElem_cons_succ, List.getElem_cons_zero, List.setIfInBounds_toArray, List.set_cons_succ, List.set_cons_zero])
            refine HeadAt.take (i := 3) undef rfl (by kernel_rfl) (.inr ⟨by kernel_rfl, rfl⟩) S0 ?_
            (try simp only [Act.put, List.getElem_toArray, List.getElem_cons_succ, List.getElem_cons_zero, List.setIfInBounds_toArray, List.set_cons_succ, List.set_cons_zero])
            refine HeadAt.take (i := 4) undef rfl (by kernel_rfl) (.inr ⟨by kernel_rfl, rfl⟩) S0 ?_
            (try simp only [Act.put, List.getElem_toArray, List.getElem_cons_succ, List.getElem_cons_zero, List.setIfInBounds_toArray, List.set_cons_succ, List.set_cons_zero])
            refine HeadAt.take (i := 5) undef rfl (by kernel_rfl) (.inr ⟨by kernel_rfl, rfl⟩) S0 ?_
            (try simp only [Act.put, List.getElem_toArray, List.getElem_cons_succ, List.getElem_cons_zero, List.setIfInBounds_toArray, List.set_cons_succ, List.set_cons_zero])
            refine HeadAt.take (i := 6) undef rfl (by kernel_rfl) (.inr ⟨by kernel_rfl, rfl⟩) S0 ?_
            (try simp only [Act.put, List.getElem_toArray, List.getElem_cons_succ, List.getElem_cons_zero, List.setIfInBounds_toArray, List.set_cons_succ, List.set_cons_zero])
            refine HeadAt.take (i := 7) undef rfl (by kernel_rfl) (.inr ⟨by kernel_rfl, rfl⟩) S0 ?_
            (try simp only [Act.put, List.getElem_toArray, List.getElem_cons_succ, List.getElem_cons_zero, List.setIfInBounds_toArray, List.set_cons_succ, List.set_cons_zero])
            refine HeadAt.take (i := 8) undef rfl (by kernel_rfl) (.inr ⟨by kernel_rfl, rfl⟩) S0 ?_
            (try simp only [Act.put, List.getElem_toArray, List.getElem_cons_succ, List.getElem_cons_zero, List.setIfInBounds_toArray, List.set_cons_succ, List.set_cons_zero])
            refine HeadAt.take (i := 9) undef rfl (by kernel_rfl) (.inr ⟨by kernel_rfl, rfl⟩) S0 ?_
            (try simp only [Act.put, List.getElem_toArray, List.getElem_cons_succ, List.getElem_cons_zero, List.setIfInBounds_toArray, List.set_cons_succ, List.set_cons_zero])
            refine HeadAt.take (i := 10) undef rfl (by kernel_rfl) (.inr ⟨by kernel_rfl, rfl⟩) S0 ?_
            (try simp only [Act.put, List.getElem_toArray, List.getElem_cons_succ, List.getElem_cons_zero, List.setIfInBounds_toArray, List.set_cons_succ, List.set_cons_zero])
            refine HeadAt.take (i := 11) undef rfl (by kernel_rfl) (.inr ⟨by kernel_rfl, rfl⟩) S0 ?_
            (try simp only [Act.put, List.getElem_toArray, List.getElem_cons_succ, List.getElem_cons_zero, List.setIfInBounds_toArray, List.set_cons_succ, List.set_cons_zero])
            refine HeadAt.take (i := 12) (.bool false) rfl (by kernel_rfl) (.inl ⟨rfl, fun _ _ => by simp [go_sem]⟩) S0 ?_
            (try simp only [Act.put, List.getElem_toArray, List.getElem_cons_succ, List.getElem_cons_zero, List.setIfInBounds_toArray, List.set_cons_succ, List.set_cons_zero])
            refine HeadAt.done (by kernel_rfl) ?_
            (try simp only [Act.put, List.drop_succ_cons, List.drop_zero, List.getElem_toArray, List.getElem_cons_succ, List.getElem_cons_zero])
            go_wp2_with fail
            refine NoPanic.normal ?_
            obtain ⟨hy, hxw⟩ := S0
            clear hy hxw
            go_wp2
            go_roundg g2
            case measure => omega
            case rel => exact ⟨k + 1, by omega, by go_num, by rw [HQ.out], hbi⟩
          | true =>
            obtain ⟨zc, hzc⟩ : ∃ zc, zc = rclB y x := ⟨_, rfl⟩
            rw [← hzc] at hrc
            have HQ := hid (show rfit (fi.take (k + 1)) x = !zc by rw [HSN.out, hzc]; rfl)
            clear hzc HSN
            go_upto_region 9 with fail
            have hbd := (Below.refl wr.heap.size wr).drew
            have S0 := (And.intro (hy.below hbd) (hxw.below hbd))
            replace hbi := hbi.trans (hbd.mono hbi.size)
            clear hbd hy hxw
            refine wp_region_head 13 (fun w' => (AtB w' b1 (o1 + k * 3) y) ∧ (AtB w' b (off + i * 3) x)) (by kernel_rfl) rfl ?_
            generalize wr.drew = Y0 at *
            refine HeadAt.take (i := 0) (.bool true) rfl (by kernel_rfl) (.inl ⟨rfl, fun _ _ => by simp [go_sem]⟩) S0 ?_
            (try simp only [Act.put, List.getElem_toArray, List.getElem_cons_succ, List.getElem_cons_zero, List.setIfInBounds_toArray, List.set_cons_succ, List.set_cons_zero])
            refine HeadAt.take (i := 1) (.bool true) rfl (by kernel_rfl) (.inl ⟨rfl, fun _ _ => by simp [go_sem]⟩) S0 ?_
            (try simp only [Act.put, List.getElem_toArray, List.getElem_cons_succ, List.getElem_cons_zero, List.setIfInBounds_toArray, List.set_cons_succ, List.set_cons_zero])
            refine HeadAt.take (i := 2) (.slice (some ⟨b1, o1, none⟩) nf cF) rfl (by kernel_rfl) (.inl ⟨rfl, fun _ _ => by simp [go_sem]⟩) S0 ?_
            (try simp only [Act.put, List.getElem_toArray, List.getElem_cons_succ, List.getElem_cons_zero, List.setIfInBounds_toArray, List.set_cons_succ, List.set_cons_zero])
            refine HeadAt.take (i := 3) (.int .i64 (k : Int)) rfl (by kernel_rfl) (.inl ⟨rfl, fun _ _ => by simp [go_sem]⟩) S0 ?_
            (try simp only [Act.put, List.getElem_toArray, List.getElem_cons_succ, List.getElem_cons_zero, List.setIfInBounds_toArray, List.set_cons_succ, List.set_cons_zero])
            refine HeadAt.take (i := 4) (.pointer (some ⟨b1, o1 + k * 3, none⟩)) rfl (by kernel_rfl) (.inl ⟨rfl, fun w' z => ?_⟩) S0 ?_
            · (simp [go_sem, hkI, hk0])
            (try simp only [Act.put, List.getElem_toArray, List.getElem_cons_succ, List.getElem_cons_zero, List.setIfInBounds_toArray, List.set_cons_succ, List.set_cons_zero])
            refine HeadAt.take (i := 5) (.agg #[.int .i64 y.k, .int .i64 y.a, .int .i64 y.b]) rfl (by kernel_rfl) (.inl ⟨rfl, fun w' z => ?_⟩) S0 ?_
            · (have z0 := z.1.1.1; have z1 := z.1.1.2.1; have z2 := z.1.1.2.2; simp [go_sem, z0, z1, z2])
            (try simp only [Act.put, List.getElem_toArray, List.getElem_cons_succ, List.getElem_cons_zero, List.setIfInBounds_toArray, List.set_cons_succ, List.set_cons_zero])
            refine HeadAt.take (i := 6) (.slice (some ⟨b, off, none⟩) n cA) rfl (by kernel_rfl) (.inl ⟨rfl, fun _ _ => by simp [go_sem]⟩) S0 ?_
            (try simp only [Act.put, List.getElem_toArray, List.getElem_cons_succ, List.getElem_cons_zero, List.setIfInBounds_toArray, List.set_cons_succ, List.set_cons_zero])
            refine HeadAt.take (i := 7) (.int .i64 (i : Int)) rfl (by kernel_rfl) (.inl ⟨rfl, fun _ _ => by simp [go_sem]⟩) S0 ?_
            (try simp only [Act.put, List.getElem_toArray, List.getElem_cons_succ, List.getElem_cons_zero, List.setIfInBounds_toArray, List.set_cons_succ, List.set_cons_zero])
            refine HeadAt.take (i := 8) (.pointer (some ⟨b, off + i * 3, none⟩)) rfl (by kernel_rfl) (.inl ⟨rfl, fun w' z => ?_⟩) S0 ?_
            · (simp [go_sem, hiI, hi0'])
            (try simp only [Act.put, List.getElem_toArray, List.getElem_cons_succ, List.getElem_cons_zero, List.setIfInBounds_toArray, List.set_cons_succ, List.set_cons_zero])
            refine HeadAt.take (i := 9) (.agg #[.int .i64 x.k, .int .i64 x.a, .int .i64 x.b]) rfl (by kernel_rfl) (.inl ⟨rfl, fun w' z => ?_⟩) S0 ?_
            · (have z0 := z.2.1.1; have z1 := z.2.1.2.1; have z2 := z.2.1.2.2; simp [go_sem, z0, z1, z2])
            (try simp only [Act.put, List.getElem_toArray, List.getElem_cons_succ, List.getElem_cons_zero, List.setIfInBounds_toArray, List.set_cons_succ, List.set_cons_zero])
            refine HeadAt.one (i := 10) rfl (by kernel_rfl) ?_
            generalize hK : Upto _ _ = K0
            (try simp only [Act.put, List.getElem_toArray, List.getElem_cons_succ, List.getElem_cons_zero, List.setIfInBounds_toArray, List.set_cons_succ, List.set_cons_zero])
            go_wp2_with fail
            refine (hrc _).mono ?_
            rintro e V1 ⟨rfl, hb1⟩
            go_wp2_with fail
            replace S0 := (And.intro (S0.1.below hb1) (S0.2.below hb1))
            replace hbi := hbi.trans (hb1.mono hbi.size)
            clear hb1
            subst hK
            refine ⟨S0, ?_⟩
            (try simp only [Act.put, List.getElem_toArray, List.getElem_cons_succ, List.getElem_cons_zero, List.setIfInBounds_toArray, List.set_cons_succ, List.set_cons_zero])
            refine HeadAt.take (i := 11) (.bool (!zc)) rfl (by kernel_rfl) (.inl ⟨rfl, fun _ _ => by simp [go_sem]⟩) S0 ?_
            (try simp only [Act.put, List.getElem_toArray, List.getElem_cons_succ, List.getElem_cons_zero, List.setIfInBounds_toArray, List.set_cons_succ, List.set_cons_zero])
            refine HeadAt.take (i := 12) (.bool (!zc)) rfl (by kernel_rfl) (.inl ⟨rfl, fun _ _ => by simp [go_sem]⟩) S0 ?_
            (try simp only [Act.put, List.getElem_toArray, List.getElem_cons_succ, List.getElem_cons_zero, List.setIfInBounds_toArray, List.set_cons_succ, List.set_cons_zero])
            refine HeadAt.done (by kernel_rfl) ?_
            (try simp only [Act.put, List.drop_succ_cons, List.drop_zero, List.getElem_toArray, List.getElem_cons_succ, List.getElem_cons_zero])
            go_wp2_with fail
            refine NoPanic.normal ?_
            obtain ⟨hy, hxw⟩ := S0
            clear hy hxw hrc
            go_wp2
            go_roundg g2
            case measure => omega
            case rel => exact ⟨k + 1, by omega, by go_num, by rw [HQ.out], hbi⟩
    · have hres : LLP T w (.returned (.slice a p c)) wo := by
        have e : T = SS := by
          rw [HT.out]
          by_cases h0 : m = 0
          · subst h0; simp [rstM]
          · rw [List.drop_of_length_le (by rw [← HN.out]; omega), rstM_nil, List.append_nil]
        rw [e]
        have := HP.out
        subst this
        exact ⟨hb, a, c, rfl, Rat.of_own hown hrw, fun ad e => own_new2 hown ad e⟩
      have HRS := hid hres
      clear hres hown hrw HIH
      by_cases hil2 : i < n
      · have hm0 : m = 0 := by omega
        subst hm0
        have hiI : (i : Int) < (n : Int) := by omega
        go_wp2
        go_ret
        exact HRS.out
      · obtain rfl : i = n := by omega
        have hiI : ¬ (i : Int) < (i : Int) := by omega
        go_wp2
        go_ret
        exact HRS.out
end Go.Proofs.Ytmpihcencnkpbaa
