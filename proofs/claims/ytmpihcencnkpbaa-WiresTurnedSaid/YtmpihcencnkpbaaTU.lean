import Derived.Test.YtmpihcencnkpbaaTS
import Derived.Test.YtmpihcencnkpbaaTH
/-! The reference's IsSet, IsTruth. -/
namespace Go.Proofs.Ytmpihcencnkpbaa
set_option linter.unusedSimpArgs false
set_option linter.unusedVariables false
open Go Go.RowKit

theorem cmpI_lt {x y : Int} : (cmpI x y < 0 ↔ x < y) ∧ (cmpI x y = 0 ↔ x = y) := by
  unfold cmpI
  split
  · omega
  · split <;> omega
theorem cmpF_lt {g f : F3} : cmpF g f < 0 ↔ g.k < f.k ∨ (g.k = f.k ∧ (g.a < f.a ∨ (g.a = f.a ∧ g.b < f.b))) := by
  have h1 := cmpI_lt (x := g.k) (y := f.k)
  have h2 := cmpI_lt (x := g.a) (y := f.a)
  have h3 := cmpI_lt (x := g.b) (y := f.b)
  unfold cmpF orI
  generalize cmpI g.k f.k = c1 at *
  generalize cmpI g.a f.a = c2 at *
  generalize cmpI g.b f.b = c3 at *
  split
  · rename_i h; omega
  · rename_i h
    split
    · rename_i h'; omega
    · rename_i h'; omega
theorem cmpF_asymm {g f : F3} (h : cmpF g f < 0) : ¬ cmpF f g < 0 := by
  rw [cmpF_lt] at h ⊢
  omega
instance (g f : F3) : Decidable (cmpF g f < 0) := inferInstanceAs (Decidable (_ < _))
theorem allF_sorted {L N : Int} (hL : 1 ≤ L ∧ L ≤ 5) (hN : 1 ≤ N ∧ N ≤ 5) : (allF L N).Pairwise fun g f => cmpF g f < 0 := by
  have h1 : L = 1 ∨ L = 2 ∨ L = 3 ∨ L = 4 ∨ L = 5 := by omega
  have h2 : N = 1 ∨ N = 2 ∨ N = 3 ∨ N = 4 ∨ N = 5 := by omega
  rcases h1 with rfl | rfl | rfl | rfl | rfl <;> rcases h2 with rfl | rfl | rfl | rfl | rfl <;> decide +kernel
theorem plN_get {f : F3} : ∀ {X : List F3}, f ∈ X → X[plN f X]? = some f
  | x :: X, h => by
    rw [plN]
    by_cases e : x = f
    · rw [if_pos e, e]; rfl
    · rw [if_neg e]
      exact plN_get ((List.mem_cons.1 h).resolve_left (fun q => e q.symm))
theorem rank_lt {X : List F3} (hX : X.Pairwise fun g f => cmpF g f < 0) {g f : F3} (hg : g ∈ X) (hf : f ∈ X) : plN g X < plN f X ↔ cmpF g f < 0 := by
  have hgg := plN_get hg
  have hff := plN_get hf
  obtain ⟨a1, a2⟩ := List.getElem?_eq_some_iff.1 hgg
  obtain ⟨b1, b2⟩ := List.getElem?_eq_some_iff.1 hff
  have hp := List.pairwise_iff_getElem.1 hX
  constructor
  · intro h
    have := hp _ _ a1 b1 h
    rwa [a2, b2] at this
  · intro h
    rcases Nat.lt_trichotomy (plN g X) (plN f X) with h1 | h1 | h1
    · exact h1
    · exfalso
      have e : g = f := by
        rw [h1, hff] at hgg
        exact (Option.some.inj hgg).symm
      rw [e] at h
      exact cmpF_asymm h h
    · exfalso
      have := hp _ _ b1 a1 h1
      rw [a2, b2] at this
      exact cmpF_asymm h this
theorem offB_iff {g f : F3} : offB g f = true ↔ cmpF g f < 0 ∧ clB g f = false := by
  unfold offB
  simp only [Bool.not_eq_true', Bool.or_eq_false_iff, decide_eq_false_iff_not]
  constructor
  · rintro ⟨h1, h2⟩; exact ⟨by omega, h2⟩
  · rintro ⟨h1, h2⟩; exact ⟨by omega, h2⟩
/-- What is known while a list is looked at. -/
structure SI (L N : Int) (pre : List F3) (last : Int) : Prop where
  st : setB L N pre = true
  le : ∀ g ∈ pre, (plN g (allF L N) : Int) ≤ last
  lo : -1 ≤ last
  at' : last = -1 ∨ ∃ g ∈ pre, (plN g (allF L N) : Int) = last
theorem SI.mem {L N last : Int} {pre : List F3} (h : SI L N pre last) (hL : 1 ≤ L ∧ L ≤ 5) (hN : 1 ≤ N ∧ N ≤ 5) {g : F3} (hg : g ∈ pre) : g ∈ allF L N := (faultB_iff hL hN).1 ((setB_iff.1 h.st).1 g hg)
theorem SI.bad {L N last : Int} {pre : List F3} (h : SI L N pre last) (hL : 1 ≤ L ∧ L ≤ 5) (hN : 1 ≤ N ∧ N ≤ 5) {x : F3} (hx : plI (allF L N) x ≤ last) : setB L N (pre ++ [x]) = false := by
  rw [← Bool.not_eq_true]
  intro hs
  obtain ⟨_, h2, h3⟩ := setB_snoc.1 hs
  have hm := (faultB_iff hL hN).1 h2
  unfold plI at hx
  rw [if_pos hm] at hx
  rcases h.at' with e | ⟨g, hg, e⟩
  · omega
  · have ho := List.all_eq_true.1 h3 g hg
    have := (rank_lt (allF_sorted hL hN) (h.mem hL hN hg) hm).2 (offB_iff.1 ho).1
    omega
theorem SI.clash {L N last : Int} {pre : List F3} (h : SI L N pre last) (hL : 1 ≤ L ∧ L ≤ 5) (hN : 1 ≤ N ∧ N ≤ 5) {g x : F3} (hg : g ∈ pre) (hc : rclB g x = true) : setB L N (pre ++ [x]) = false := by
  rw [← Bool.not_eq_true]
  intro hs
  obtain ⟨_, _, h3⟩ := setB_snoc.1 hs
  have ho := (offB_iff.1 (List.all_eq_true.1 h3 g hg)).2
  have hk := Okf.of hL hN (h.mem hL hN hg)
  rw [rclB_eq hk.1.2, ho] at hc
  cases hc
theorem SI.next {L N last : Int} {pre : List F3} (h : SI L N pre last) (hL : 1 ≤ L ∧ L ≤ 5) (hN : 1 ≤ N ∧ N ≤ 5) {x : F3} (hx : last < plI (allF L N) x) (hc : ∀ g ∈ pre, rclB g x = false) : SI L N (pre ++ [x]) (plI (allF L N) x) := by
  have hm : x ∈ allF L N := Classical.byContradiction fun hn => by
    unfold plI at hx
    rw [if_neg hn] at hx
    have := h.lo
    omega
  have he : plI (allF L N) x = (plN x (allF L N) : Int) := by unfold plI; rw [if_pos hm]
  rw [he] at hx ⊢
  refine ⟨setB_snoc.2 ⟨h.st, (faultB_iff hL hN).2 hm, List.all_eq_true.2 fun g hg => ?_⟩, fun g hg => ?_, by omega, .inr ⟨x, List.mem_append_right _ (List.mem_singleton.2 rfl), rfl⟩⟩
  · have hgm := h.mem hL hN hg
    have hk := Okf.of hL hN hgm
    have hle := h.le g hg
    refine offB_iff.2 ⟨(rank_lt (allF_sorted hL hN) hgm hm).1 (by omega), ?_⟩
    rw [← rclB_eq hk.1.2]; exact hc g hg
  · rcases List.mem_append.1 hg with h1 | h1
    · have := h.le g h1; omega
    · rw [List.mem_singleton.1 h1]; exact Int.le_refl _

set_option maxRecDepth 100000 in
set_option maxHeartbeats 6000000 in
theorem IsSet_any (L N : Int) (aP : Option Addr) (cP : Nat) (P : List F3) (F : Int) (aS : Option Addr) (cS : Nat) (s : List F3) (w : World) (hS : Fz w aS s) (hL : 1 ≤ L ∧ L ≤ 5) (hN : 1 ≤ N ∧ N ≤ 5) :
    Calls Try.prog 60 #[.agg #[.int .i64 L, .int .i64 N, .slice aP P.length cP, .int .i64 F], .slice aS s.length cS] w fun e w' => e = .returned (.bool (setB L N s)) ∧ Below w.heap.size w w' := by
  obtain ⟨W, hW, hb, _, x0⟩ := boxes1 w #[.int .i64 L, .int .i64 N, .slice aP P.length cP, .int .i64 F] 24
  have hS1 := hS.below hb (Nat.le_refl _)
  have hlen := hS.len
  have haf := fun V => AllFaults_any L N aP cP P F V hL hN
  unfold LFP at haf
  have hpl := fun a c V f (h : Fz V a (allF L N)) => place_any a c (allF L N) f V h
  have hrc := fun g f V => rclash_any g f V
  have HST := hid (fun pre last (h : SI L N pre last) => And.intro (fun x hx => h.bad hL hN (x := x) hx) (And.intro (fun g x hg hc => h.clash hL hN (g := g) (x := x) hg hc) (fun x hx hc => h.next hL hN (x := x) hx hc)))
  have HTK := hid (fun k (h : setB L N s = true) => setB_take h k)
  have HS0 : Hid (SI L N [] (-1)) := hid ⟨rfl, fun g hg => by simp at hg, by omega, .inl rfl⟩
  have HEN := hid (show ∀ last, SI L N s last → setB L N s = true from fun last h => h.st)
  obtain ⟨r, hr⟩ : ∃ r, r = setB L N s := ⟨_, rfl⟩
  have HR := hid hr
  rw [← hr]
  have hal := allF_len hL hN
  obtain ⟨n, hn⟩ : ∃ n, n = s.length := ⟨_, rfl⟩
  have HM := hid hn
  rw [← hn] at hlen ⊢
  obtain ⟨na, hna⟩ : ∃ na, na = (allF L N).length := ⟨_, rfl⟩
  rw [← hna] at haf hpl hal
  have hpr : ∀ f, -1 ≤ plI (allF L N) f ∧ plI (allF L N) f ≤ 60 := fun f => by
    unfold plI
    split
    · rename_i h
      have := (List.getElem?_eq_some_iff.1 (plN_get h)).1
      omega
    · omega
  have HPR := hid hpr
  clear hS hr hn hna hpr
  have e0 := x0.cell 0 rfl; have e1 := x0.cell 1 rfl; have e2 := x0.cell 2 rfl; have e3 := x0.cell 3 rfl
  go_enter Try.func60, Try.ntmps60
  go_wp2_with fail
  refine (haf _).mono ?_
  rintro e W1 ⟨hb1, aA, cA, rfl, _, hfy⟩
  have hfz := hfy.1
  have hS2 := hS1.below hb1 (Nat.le_refl _)
  replace hb := hb.trans (hb1.mono hb.size)
  clear e0 e1 e2 e3 x0 hW haf hS1 hfy hb1
  go_wp2
  go_loopg [4, 6, 7, 8, 9] n (fun g v4 v6 v7 v8 v9 wr => ∃ (i : Nat) (last : Int), i + g = n ∧ v7 = .int .i64 (i : Int) ∧ v6 = .int .i64 last ∧ Hid (SI L N (s.take i) last) ∧ Below W1.heap.size W1 wr)
  case atStart => exact ⟨0, -1, by omega, rfl, rfl, HS0, Below.refl _ _⟩
  case round =>
    obtain ⟨i, last, hig, rfl, rfl, HI, hb1⟩ := hrel
    cases gk with
    | zero =>
      obtain rfl : i = n := by omega
      have hiI : ¬ (i : Int) < (i : Int) := by omega
      have hres : r = true := by
        have h1 := HI.out
        rw [HM.out, List.take_length] at h1
        rw [HR.out]; exact h1.st
      have HQ := hid hres
      replace hb := hb.trans (hb1.mono hb.size)
      clear hres HI
      go_wp2
      go_ret
      exact ⟨ret_bool (by rw [HQ.out]), hb⟩
    | succ g =>
      have hin : i < n := by omega
      have hSr := hS2.below hb1 (Nat.le_refl _)
      have hAr := hfz.below hb1 (Nat.le_refl _)
      obtain ⟨b, off, x, rfl, hbl, ⟨q0, q1, q2⟩, _, hmem, _, _, htk⟩ := hSr.at (k := i) (by rw [← HM.out]; exact hin)
      have hiI : (i : Int) < (n : Int) := by omega
      have hi0 : (0 : Int) ≤ (i : Int) := by omega
      obtain ⟨hbad, hcl, hnx⟩ := HST.out _ _ HI.out
      have hbd := hbad x
      have hcx := fun g => hcl g x
      have hnn := hnx x
      have hno : setB L N (s.take i ++ [x]) = false → r = false := fun h => by
        rw [HR.out, ← Bool.not_eq_true]
        intro h2
        have := HTK.out (i + 1) h2
        rw [htk.out, h] at this
        cases this
      have hpx := hpl aA cA wr x hAr
      obtain ⟨p1, p2⟩ := HPR.out x
      generalize plI (allF L N) x = p at *
      have hwi : IntKind.i64.wrap ((i : Int) + 1) = ((i + 1 : Nat) : Int) := by rw [IntWalk.i64_in _ (by omega)]; omega
      have HBD := hid hbd
      have HCX := hid hcx
      have HNN := hid hnn
      have HNO := hid hno
      have HHT := hid htk.out
      clear hbad hcl hnx hbd hcx hnn hno htk hAr hpl
      by_cases hpi : p ≤ last
      · have HQ := hid (HNO.out (HBD.out hpi))
        clear HBD HCX HNN HNO
        go_wp2_with fail
        refine hpx.mono ?_
        rintro e V1 ⟨rfl, hb2⟩
        replace hb := hb.trans ((hb1.trans (hb2.mono hb1.size)).mono hb.size)
        clear hpx hb1 hb2 q0 q1 q2
        go_wp2
        go_ret
        exact ⟨ret_bool (by rw [HQ.out]), hb⟩
      · have hpj : ¬ p ≤ last := hpi
        have hlt : last < p := by omega
        have HLT := hid hlt
        clear HBD hpi hlt
        go_wp2_with fail
        refine hpx.mono ?_
        rintro e V1 ⟨rfl, hb2⟩
        replace hb1 := hb1.trans (hb2.mono hb1.size)
        clear hpx hb2 q0 q1 q2
        go_wp2
        have hbs := hb1
        go_loopg [4, 9] i (fun g2 v4 v9 wi => ∃ k : Nat, k + g2 = i ∧ v9 = .int .i64 (k : Int) ∧ Hid (∀ g ∈ s.take k, rclB g x = false) ∧ Below W1.heap.size W1 wi)
        case atStart => exact ⟨0, by omega, rfl, hid (fun g hg => by simp at hg), hb1⟩
        case round =>
          clear hb1 hbs hSr
          obtain ⟨k, hkg, rfl, HC, hb1⟩ := hrel
          cases gk with
          | zero =>
            obtain rfl : k = i := by omega
            have hkI : ¬ (k : Int) < (k : Int) := by omega
            have HNX := hid (show SI L N (s.take (k + 1)) p by rw [HHT.out]; exact HNN.out HLT.out HC.out)
            clear HC HCX HNN HNO HHT HI hkg
            go_wp2
            go_roundg g
            case measure => omega
            case rel => exact ⟨k + 1, p, by omega, by go_num, rfl, HNX, hb1⟩
          | succ g2 =>
            have hki : k < i := by omega
            have hSk := hS2.below hb1 (Nat.le_refl _)
            obtain ⟨b', off', y, hbe, hbl', c0, _, _, _, _, htk2⟩ := hSk.at (k := k) (by rw [← HM.out]; omega)
            obtain ⟨b'', off'', y2, hbe2, hbl2, d0, _, _, hy2, _, _⟩ := hSk.at (k := i) (by rw [← HM.out]; omega)
            cases hbe
            cases hbe2
            have hyx : y2 = x := by
              have h1 := hy2.out
              have h2 : (s.take (i + 1))[i]? = some x := by
                rw [HHT.out, List.getElem?_append_right (by rw [List.length_take]; omega), List.length_take]
                rw [Nat.min_eq_left (by have := HM.out; omega), Nat.sub_self]; rfl
              rw [List.getElem?_take, if_pos (by omega), h1] at h2
              exact Option.some.inj h2
            subst hyx
            have hym : y ∈ s.take i := by
              have h1 : y ∈ s.take (k + 1) := by rw [htk2.out]; simp
              have e : s.take (k + 1) = (s.take i).take (k + 1) := by rw [List.take_take, Nat.min_eq_left (by omega)]
              rw [e] at h1
              exact List.mem_of_mem_take h1
            have hkI : (k : Int) < (i : Int) := by omega
            have hkn : (k : Int) < (n : Int) := by omega
            have hk0 : (0 : Int) ≤ (k : Int) := by omega
            have hwk : IntKind.i64.wrap ((k : Int) + 1) = ((k + 1 : Nat) : Int) := by rw [IntWalk.i64_in _ (by omega)]; omega
            have hrx := fun V => hrc y y2 V
            have HYB := hid (fun h : rclB y y2 = true => HNO.out (HCX.out y hym h))
            have HYC := hid (fun h : rclB y y2 = false => show ∀ g ∈ s.take (k + 1), rclB g y2 = false from fun g hg => by
              rw [htk2.out] at hg
              rcases List.mem_append.1 hg with h1 | h1
              · exact HC.out g h1
              · rw [List.mem_singleton.1 h1]; exact h)
            have hck : AtB wr b (off + k * 3) y := ⟨c0, hbl'⟩
            have hci : AtB wr b (off + i * 3) y2 := ⟨d0, hbl'⟩
            clear c0 d0 hbl' hbl2 htk2 hy2 hSk HC
            go_upto_region 12 with fail
            have hbd := (Below.refl wr.heap.size wr).drew
            have S0 := (And.intro (hck.below hbd) (hci.below hbd))
            replace hb1 := hb1.trans (hbd.mono hb1.size)
            clear hbd hck hci
            refine wp_region_head 8 (fun w' => (AtB w' b (off + k * 3) y) ∧ (AtB w' b (off + i * 3) y2)) (by kernel_rfl) rfl ?_
            generalize wr.drew = Y0 at *
            refine HeadAt.take (i := 0) (.slice (some ⟨b, off, none⟩) n cS) rfl (by kernel_rfl) (.inl ⟨rfl, fun _ _ => by simp [go_sem]⟩) S0 ?_
            (try simp only [Act.put, List.getElem_toArray, List.getElem_cons_succ, List.getElem_cons_zero, List.setIfInBounds_toArray, List.set_cons_succ, List.set_cons_zero])
            refine HeadAt.take (i := 1) (.int .i64 (k : Int)) rfl (by kernel_rfl) (.inl ⟨rfl, fun _ _ => by simp [go_sem]⟩) S0 ?_
            (try simp only [Act.put, List.getElem_toArray, List.getElem_cons_succ, List.getElem_cons_zero, List.setIfInBounds_toArray, List.set_cons_succ, List.set_cons_zero])
            refine HeadAt.take (i := 2) (.pointer (some ⟨b, off + k * 3, none⟩)) rfl (by kernel_rfl) (.inl ⟨rfl, fun w' z => ?_⟩) S0 ?_
            · (simp [go_sem, hkn, hk0])
            (try simp only [Act.put, List.getElem_toArray, List.getElem_cons_succ, List.getElem_cons_zero, List.setIfInBounds_toArray, List.set_cons_succ, List.set_cons_zero])
            refine HeadAt.take (i := 3) (.agg #[.int .i64 y.k, .int .i64 y.a, .int .i64 y.b]) rfl (by kernel_rfl) (.inl ⟨rfl, fun w' z => ?_⟩) S0 ?_
            · (have z0 := z.1.1.1; have z1 := z.1.1.2.1; have z2 := z.1.1.2.2; simp [go_sem, z0, z1, z2])
            (try simp only [Act.put, List.getElem_toArray, List.getElem_cons_succ, List.getElem_cons_zero, List.setIfInBounds_toArray, List.set_cons_succ, List.set_cons_zero])
            refine HeadAt.take (i := 4) (.slice (some ⟨b, off, none⟩) n cS) rfl (by kernel_rfl) (.inl ⟨rfl, fun _ _ => by simp [go_sem]⟩) S0 ?_
            (try simp only [Act.put, List.getElem_toArray, List.getElem_cons_succ, List.getElem_cons_zero, List.setIfInBounds_toArray, List.set_cons_succ, List.set_cons_zero])
            refine HeadAt.take (i := 5) (.int .i64 (i : Int)) rfl (by kernel_rfl) (.inl ⟨rfl, fun _ _ => by simp [go_sem]⟩) S0 ?_
            (try simp only [Act.put, List.getElem_toArray, List.getElem_cons_succ, List.getElem_cons_zero, List.setIfInBounds_toArray, List.set_cons_succ, List.set_cons_zero])
            refine HeadAt.take (i := 6) (.pointer (some ⟨b, off + i * 3, none⟩)) rfl (by kernel_rfl) (.inl ⟨rfl, fun w' z => ?_⟩) S0 ?_
            · (simp [go_sem, hiI, hi0])
            (try simp only [Act.put, List.getElem_toArray, List.getElem_cons_succ, List.getElem_cons_zero, List.setIfInBounds_toArray, List.set_cons_succ, List.set_cons_zero])
            refine HeadAt.take (i := 7) (.agg #[.int .i64 y2.k, .int .i64 y2.a, .int .i64 y2.b]) rfl (by kernel_rfl) (.inl ⟨rfl, fun w' z => ?_⟩) S0 ?_
            · (have z0 := z.2.1.1; have z1 := z.2.1.2.1; have z2 := z.2.1.2.2; simp [go_sem, z0, z1, z2])
            (try simp only [Act.put, List.getElem_toArray, List.getElem_cons_succ, List.getElem_cons_zero, List.setIfInBounds_toArray, List.set_cons_succ, List.set_cons_zero])
            refine HeadAt.done (by kernel_rfl) ?_
            (try simp only [Act.put, List.drop_succ_cons, List.drop_zero, List.getElem_toArray, List.getElem_cons_succ, List.getElem_cons_zero])
            clear S0
            go_wp2_with fail
            refine (hrx _).mono ?_
            rintro e V3 ⟨rfl, hb3⟩
            replace hb1 := hb1.trans (hb3.mono hb1.size)
            clear hb3 hrx
            go_wp2_with fail
            refine NoPanic.normal ?_
            cases hz : rclB y y2
            · have HY := hid (HYC.out hz)
              clear HYB HYC hz
              go_wp2
              go_roundg g2
              case measure => omega
              case rel => exact ⟨k + 1, by omega, by go_num, HY, hb1⟩
            · have HY := hid (HYB.out hz)
              replace hb := hb.trans (hb1.mono hb.size)
              clear HYB HYC hz
              go_wp2
              (try rw [Exit.noGoto_ret])
              go_ret
              exact ⟨ret_bool (by rw [HY.out]), hb⟩
end Go.Proofs.Ytmpihcencnkpbaa
