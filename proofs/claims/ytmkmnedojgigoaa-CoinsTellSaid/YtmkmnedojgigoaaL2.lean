import Derived.Test.YtmkmnedojgigoaaK3
import Derived.Test.YtmkmnedojgigoaaP8
namespace Go.Proofs.Ytmkmnedojgigoaa
open Go.RowKit

set_option maxRecDepth 100000 in
set_option maxHeartbeats 1000000 in
theorem put_any (R : Nat) (an ac : Option Addr) (cn cc : Nat) (N C : List Int) (p c : Nat) (w : World) (hN : Ints w an N) (hv : Vw R N C) (hp : p < R) (hc : c ≤ 2000) :
    Calls Try.prog 72 #[.agg #[.int .i64 (R : Int), .slice an N.length cn, .slice ac C.length cc], .int .i64 p, .int .i64 c] w fun e w' => e = .returned (.tuple #[.int .i64 ((p + c) % R : Nat), .int .i64 (gv R N p c : Nat)]) ∧ Below w.heap.size w w' := by
  have r2 := hv.r2
  have r1 := hv.r1
  obtain ⟨W, hW, hb, hs, x0⟩ := boxes1 w #[.int .i64 (R : Int), .slice an N.length cn, .slice ac C.length cc] 24
  clear hs
  replace hN := hN.below hb (Nat.le_refl _)
  go_enter Try.func72, Try.ntmps72
  go_wp2
  clear hW
  go_loop [1, 7, 8] (fun s1 s7 s8 => ∃ (i q : Nat), i ≤ c ∧ s8 = .int .i64 i ∧ s1 = .int .i64 q ∧ q < R ∧ q = (p + i) % R ∧ s7 = .int .i64 (gv R N p i : Nat)) (fun _ _ s8 => c - (intOf s8).toNat)
  case atStart => exact ⟨0, p, Nat.zero_le _, rfl, rfl, hp, by rw [Nat.add_zero, Nat.mod_eq_of_lt hp], by simp [gv]⟩
  case round =>
    obtain ⟨i, q, hi, rfl, rfl, hq, hqe, rfl⟩ := hrel
    have hgl := gv_le hv p i
    have h1 := gv_one hv p i
    have h2 := mod_one (R := R) (q := p + i) r1
    rw [← hqe] at h1 h2
    rw [Nat.add_assoc] at h2
    obtain ⟨G, hG⟩ : ∃ G, G = gv R N p i := ⟨_, rfl⟩
    obtain ⟨G', hG'⟩ : ∃ G, G = gv R N p (i + 1) := ⟨_, rfl⟩
    rw [← hG, ← hG'] at h1
    rw [← hG] at hgl ⊢
    have HG' := hid hG'; have Hq := hid hqe; have H2 := hid h2; have H1 := hid h1; have HG := hid hG
    clear hG hG' hqe h2 h1
    have c0 := x0.cell 0 rfl; have c1 := x0.cell 1 rfl; have c2 := x0.cell 2 rfl
    by_cases hlt : i < c
    · cases hin : inB N ((q : Int) + 1)
      all_goals
        by_cases hR : (q : Int) + 1 = (R : Int)
        · have hRB : ((q : Int) + 1 == (R : Int)) = true := by simp [hR]
          have HR := hid hR; clear hR
          go_wp2_with (go_at_call 52; refine (in_any _ _ _ _ _ hN).mono ?_; rintro e w' ⟨rfl, rfl⟩)
          go_round
          case rel => exact ⟨i + 1, 0, by omega, by go_num, rfl, by omega, by rw [H2.out, if_pos (by have := HR.out; omega)], by rw [← HG'.out, H1.out, hin]; simp⟩
          case measure => simp [intOf]; omega
        · have hRB : ((q : Int) + 1 == (R : Int)) = false := by simp [hR]
          have HR := hid hR; clear hR
          go_wp2_with (go_at_call 52; refine (in_any _ _ _ _ _ hN).mono ?_; rintro e w' ⟨rfl, rfl⟩)
          go_round
          case rel => exact ⟨i + 1, q + 1, by omega, by go_num, by go_num, by have := HR.out; omega, by rw [H2.out, if_neg (by have := HR.out; omega)], by rw [← HG'.out, H1.out, hin]; simp⟩
          case measure => simp [intOf]; omega
    · have he : i = c := by omega
      go_wp2
      go_ret2
      exact ⟨by rw [Hq.out, HG.out, he]; rfl, hb⟩
end Go.Proofs.Ytmkmnedojgigoaa
namespace Go.Proofs.Ytmkmnedojgigoaa
open Go.RowKit

/-! Rows of pairs. -/
def pcells (xs : List (Int × Int)) : List Value := xs.flatMap fun x => [.int .i64 x.1, .int .i64 x.2]
theorem pcells_cons (x : Int × Int) (xs : List (Int × Int)) : pcells (x :: xs) = .int .i64 x.1 :: .int .i64 x.2 :: pcells xs := rfl
theorem pcells_app (xs ys : List (Int × Int)) : pcells (xs ++ ys) = pcells xs ++ pcells ys := by simp [pcells]
theorem pcells_len : ∀ xs : List (Int × Int), (pcells xs).length = xs.length * 2
  | [] => rfl
  | x :: xs => by rw [pcells_cons, List.length_cons, List.length_cons, List.length_cons, pcells_len xs]; omega
theorem pcells_at : ∀ (xs : List (Int × Int)) (i : Nat), i < xs.length → (pcells xs)[i * 2]? = some (.int .i64 (xs.getD i (0, 0)).1) ∧ (pcells xs)[i * 2 + 1]? = some (.int .i64 (xs.getD i (0, 0)).2)
  | [], i, h => by simp at h
  | x :: xs, 0, _ => ⟨rfl, rfl⟩
  | x :: xs, i + 1, h => by
    have := pcells_at xs i (by simpa using h)
    rw [pcells_cons, show (i + 1) * 2 = i * 2 + 1 + 1 by omega]
    exact ⟨by rw [List.getElem?_cons_succ, List.getElem?_cons_succ]; simpa using this.1, by rw [List.getElem?_cons_succ, List.getElem?_cons_succ]; simpa using this.2⟩
theorem pcells_one (xs : List (Int × Int)) : ∀ u ∈ pcells xs, u.oneCell' = true := fun u hu => by
  simp only [pcells, List.mem_flatMap, List.mem_cons, List.not_mem_nil, or_false] at hu
  obtain ⟨x, _, rfl | rfl⟩ := hu <;> rfl
theorem Prs.cls {w : World} {A : Option Addr} {xs : List (Int × Int)} (h : Prs w A xs) : Cls w A (pcells xs) := fun j u hj => by
  have hlt : j < (pcells xs).length := by
    rcases Nat.lt_or_ge j (pcells xs).length with hl | hl
    · exact hl
    · rw [List.getElem?_eq_none hl] at hj; cases hj
  rw [pcells_len] at hlt
  obtain ⟨i, hi, e⟩ : ∃ i, i < xs.length ∧ (j = i * 2 ∨ j = i * 2 + 1) := ⟨j / 2, by omega, by omega⟩
  obtain ⟨b, off, ha, hb, h1, h2⟩ := h.2.2 i hi
  obtain ⟨p1, p2⟩ := pcells_at xs i hi
  rcases e with rfl | rfl
  · exact ⟨b, off, ha, hb, by rw [h1, ← p1, hj]⟩
  · exact ⟨b, off, ha, hb, by rw [← Nat.add_assoc, h2, ← p2, hj]⟩
theorem Prs.of_own {w : World} {base : Nat} {e : TypeId} {v : Value} {xs : List (Int × Int)} (h : w.ownsRow base e 2 v xs.length (pcells xs)) (h1 : xs.length ≤ 4611686018427387903) (h2 : ∀ x ∈ xs, -9223372036854775808 ≤ x.1 ∧ x.1 ≤ 9223372036854775807 ∧ -9223372036854775808 ≤ x.2 ∧ x.2 ≤ 9223372036854775807) :
    ∃ a ca, v = .slice a xs.length ca ∧ Prs w a xs := by
  rcases h.2 with ⟨h', h0⟩ | ⟨g, cap, cur, h', hb, hg, hc1, _, hs, ht⟩
  · exact ⟨none, 0, by rw [h', h0], h1, h2, fun i hi => by omega⟩
  · refine ⟨some ⟨g, 0, none⟩, cap, h', h1, h2, fun i hi => ⟨g, 0, rfl, (Array.getElem?_eq_some_iff.1 hg).1, ?_⟩⟩
    rw [h'] at h
    have e1 := World.ownsRow.cellAt h (i * 2) (by omega)
    have e2 := World.ownsRow.cellAt h (i * 2 + 1) (by omega)
    rw [Nat.zero_add, e1, e2]
    exact pcells_at xs i hi
theorem Prs.take {w : World} {A : Option Addr} {xs : List (Int × Int)} (h : Prs w A xs) (k : Nat) : Prs w A (xs.take k) := by
  obtain ⟨h1, h2, h3⟩ := h
  refine ⟨by have := List.length_take_le k xs; have := List.length_take_le' k xs; omega, fun x hx => h2 x (List.mem_of_mem_take hx), fun i hi => ?_⟩
  rw [List.length_take] at hi
  have := h3 i (by omega)
  simpa [List.getD, List.getElem?_take, show i < k by omega] using this
theorem own_ge2 {w : World} {base size : Nat} {e : TypeId} {v : Value} {n : Nat} {xs : List Value} (h : w.ownsRow base e size v n xs) : ∀ k, v.ownBlock = some k → base ≤ k := by
  intro k hk
  rcases h.2 with ⟨h', _⟩ | ⟨g, cap, cur, h', hb, _⟩
  · rw [h'] at hk; simp [Value.ownBlock] at hk
  · rw [h'] at hk; simp [Value.ownBlock] at hk; omega
theorem own_new2 {w : World} {base size : Nat} {e : TypeId} {a : Option Addr} {n m c : Nat} {xs : List Value} (h : w.ownsRow base e size (.slice a n c) m xs) : ∀ x, a = some x → base ≤ x.block := by
  intro x hx
  subst hx
  exact own_ge2 h x.block (by simp [Value.ownBlock])
theorem own_below2 {w w' : World} {base size : Nat} {e : TypeId} {v : Value} {n : Nat} {xs : List Value} (h : w.ownsRow base e size v n xs) (hb : Below w.heap.size w w') : w'.ownsRow base e size v n xs := by
  refine ⟨h.1, ?_⟩
  rcases h.2 with h' | ⟨g, cap, cur, h1, h2, hg, h3⟩
  · exact .inl h'
  · exact .inr ⟨g, cap, cur, h1, h2, by rw [hb.block g (Array.getElem?_eq_some_iff.1 hg).1]; exact hg, h3⟩
theorem own_slice2 {w : World} {base size : Nat} {e : TypeId} {v : Value} {n : Nat} {xs : List Value} (h : w.ownsRow base e size v n xs) : ∃ a c, v = .slice a n c := by
  rcases h.2 with ⟨rfl, hz⟩ | ⟨g, cap, cur, rfl, _⟩
  · exact ⟨none, 0, by rw [hz]⟩
  · exact ⟨_, _, rfl⟩
theorem Cls.of_bx {w : World} {b : Nat} {vs : Array Value} {T : TypeId} (h : Bx w b vs T) : Cls w (some ⟨b, 0, none⟩) vs.toList := fun j u hj =>
  ⟨b, 0, rfl, h.lt, by rw [Nat.zero_add]; exact h.cell j (by simpa using hj)⟩
theorem under47 : Try.prog.underlying 47 = some (.slice 50) := by kernel_rfl
theorem info50 : (Try.prog.info? 50).map (fun i => (i.zero, i.size, i.bytes)) = some (some (.agg #[.int .i64 0, .int .i64 0]), 2, 16) := by kernel_rfl

def WhatPost (R : Nat) (N C : List Int) (p : Nat) (ks : List Int) (w : World) (e : Ending) (w' : World) : Prop :=
  Below w.heap.size w w' ∧ ∃ (a : Option Addr) (ca : Nat), e = .returned (.tuple #[.slice a (whatS R N C p ks).length ca, .int .i64 ((p + tot C ks) % R : Nat)]) ∧ Prs w' a (whatS R N C p ks) ∧ (whatS R N C p ks).length ≤ ca ∧ ∀ x, a = some x → w.heap.size ≤ x.block

theorem tot_snoc (C : List Int) (xs : List Int) (x : Int) : tot C (xs ++ [x]) = tot C xs + cw C x.toNat := by rw [tot_app, tot_cons]; simp [tot]

set_option maxRecDepth 100000 in
set_option maxHeartbeats 1000000 in
theorem what_any (R : Nat) (an ac : Option Addr) (cn cc : Nat) (N C : List Int) (p : Nat) (a : Option Addr) (ca : Nat) (ks : List Int) (w : World) (hN : Ints w an N) (hC : Ints w ac C) (hX : Ints w a ks) (hv : Vw R N C) (hp : p < R) (hk : ks.all (isKindB C) = true) (hl : ks.length ≤ 20) :
    Calls Try.prog 55 #[.agg #[.int .i64 (R : Int), .slice an N.length cn, .slice ac C.length cc], .int .i64 p, .slice a ks.length ca] w (WhatPost R N C p ks w) := by
  obtain ⟨j0, hj, jz0, jz1, jz2⟩ := info_parts info50
  have r1 := hv.r1
  have r2 := hv.r2
  obtain ⟨W, hW, hb, hs, x0⟩ := boxes1 w #[.int .i64 (R : Int), .slice an N.length cn, .slice ac C.length cc] 24
  have Hs := hid hs; clear hs
  have hN0 := hN; have hC0 := hC; have hX0 := hX
  clear hN hC hX
  go_enter Try.func55, Try.ntmps55
  go_wp2
  clear hW
  go_loopw [1, 6, 8] (fun s1 s6 s8 wr => ∃ (k q : Nat), k ≤ ks.length ∧ s8 = .int .i64 k ∧ s1 = .int .i64 q ∧ q < R ∧ q = (p + tot C (ks.take k)) % R ∧ wr.ownsRow (w.heap.size + 1) 50 2 s6 k (pcells (whatS R N C p (ks.take k))) ∧ Below w.heap.size w wr ∧ Bx wr w.heap.size #[.int .i64 (R : Int), .slice an N.length cn, .slice ac C.length cc] 24) (fun _ _ s8 _ => ks.length - (intOf s8).toNat)
  case atStart => exact ⟨0, p, Nat.zero_le _, rfl, rfl, hp, by simp [tot, Nat.mod_eq_of_lt hp], World.ownsRow_nil _ _ _ _, hb, x0⟩
  case round =>
    clear hb x0
    obtain ⟨k, q, hk', rfl, rfl, hq, hqe, hown, hb, x0⟩ := hrel
    have Hq := hid hqe; clear hqe
    by_cases hlt : k < ks.length
    · have hX := hX0.below hb (Nat.le_refl _); have hC := hC0.below hb (Nat.le_refl _); have hN := hN0.below hb (Nat.le_refl _)
      obtain ⟨b, off, x, rfl, hbs, hc, _, _, hx, _⟩ := hX.at hlt
      obtain ⟨n, rfl, hn⟩ := kind_nat (List.all_eq_true.1 hk x (List.mem_of_getElem? hx.out))
      obtain ⟨bc, offc, y, rfl, hbc, hcc, _, _, hy, _⟩ := hC.at hn
      have hco := hv.coin hn
      have hye : y = (cw C n : Int) := by have := hy.out; rw [hco.1] at this; simpa using this.symm
      subst hye
      obtain ⟨c, hce⟩ : ∃ c, c = cw C n := ⟨_, rfl⟩
      rw [← hce] at hcc hco
      obtain ⟨G, hG⟩ : ∃ G, G = gv R N q c := ⟨_, rfl⟩
      obtain ⟨q', hq'⟩ : ∃ q', q' = (q + c) % R := ⟨_, rfl⟩
      have hql : q' < R := by rw [hq']; exact Nat.mod_lt _ r1
      have hpu : ∀ t : Ext wr, Calls Try.prog 72 #[.agg #[.int .i64 (R : Int), .slice an N.length cn, .slice (some ⟨bc, offc, none⟩) C.length cc], .int .i64 q, .int .i64 c] t.w fun e w' => e = .returned (.tuple #[.int .i64 q', .int .i64 G]) ∧ Below t.w.heap.size t.w w' := fun t => by
        rw [hG, hq']
        exact put_any R an _ cn cc N C q c t.w (hN.below t.below (Nat.le_refl _)) hv hq (by omega)
      have hs : whatS R N C p (ks.take (k + 1)) = whatS R N C p (ks.take k) ++ [((n : Int), ((G : Nat) : Int))] := by
        rw [List.take_add_one, hx.out, Option.toList_some, whatS_snoc _ _ _ hp, ← Hq.out, Int.toNat_natCast, hG, hce]
      have ht : (p + tot C (ks.take (k + 1))) % R = q' := by
        rw [hq', List.take_add_one, hx.out, Option.toList_some, tot_snoc, ← Nat.add_assoc, Nat.add_mod, ← Hq.out, Int.toNat_natCast, ← hce, Nat.add_mod q c, Nat.mod_eq_of_lt hq]
      have HS := hid hs; have HT := hid ht
      have hGl : G ≤ 100 := by have := gv_le_c hv q c; omega
      have hcl : c ≤ 100 := by omega
      clear hs ht hco hce hG hx hy hq'
      have hkI : (k : Int) < (ks.length : Int) := by omega
      have hnI : (n : Int) < (C.length : Int) := by omega
      have hk0 : (0 : Int) ≤ (k : Int) := by omega
      have hn0 : (0 : Int) ≤ (n : Int) := by omega
      have d0 := x0.ext 0 rfl; have d1 := x0.ext 1 rfl; have d2 := x0.ext 2 rfl
      have d3 := Ext.cell hc; have d4 := Ext.cell hcc
      go_wp2_with fail
      refine wp_region_ext_lit (by kernel_rfl) (by kernel_rfl) ?_
      repeat (quiet_step (first | (go_at_call 72; exact quiet_ext (hpu _))))
      refine wpQuiet_nil ?_
      intro _ hw'
      obtain ⟨t, rfl⟩ := hw'
      have hbt := t.below
      replace hb := hb.trans (hbt.mono hb.size)
      replace x0 := x0.below hbt
      have hown := own_below2 hown hbt
      clear hX hC hN hpu d0 d1 d2 d3 d4
      have hcx := Below.keep hbt hc
      have lz := x0.lt
      generalize t.w = Y0 at *
      clear hbt hc hcc
      obtain ⟨a6, c6, rfl⟩ := own_slice2 hown
      have hb1 := below_one (w := Y0) (.cells #[.int .i64 (n : Int), .int .i64 (G : Int)] 50)
      have hown1 := own_below2 hown hb1
      have hnew := Cls.of_bx (Bx.new Y0 #[.int .i64 (n : Int), .int .i64 (G : Int)] 50)
      have hcy := Below.keep hb1 hcx
      go_wp2_with (at_builtin; refine wpList_app rfl (.tmp 31) (.tmp 38) 47 rfl (w.heap.size + 1) 50 j0 (.agg #[.int .i64 0, .int .i64 0]) 2 16 under47 hj jz0 jz1 jz2 rfl (by decide) _ k _ rfl hown1 (some ⟨Y0.heap.size, 0, none⟩) 1 1 [.int .i64 (n : Int), .int .i64 (G : Int)] rfl rfl hnew (pcells_one [((n : Int), (G : Int))]) (by unfold maxLen; omega) (by omega) (by simp; omega) ?_; intro v1 Y2 hown2 hg)
      have hge := own_ge2 hown1
      replace hb : Below w.heap.size w Y2 := (hb.trans (hb1.mono hb.size)).grown hg (by have := hb.size; simp; omega) (fun k hk => by have := hge k hk; omega)
      replace x0 := (x0.below hb1).gb hg (fun k hk => by have := hge k hk; omega)
      obtain ⟨a7, c7, rfl⟩ := own_slice2 hown2
      go_roundw
      case rel => exact ⟨k + 1, q', by omega, by go_num, rfl, hql, HT.out.symm, by rw [HS.out, pcells_app]; exact hown2, hb, x0⟩
      case measure => simp [intOf]; omega
    · have he : k = ks.length := by omega
      subst he
      rw [List.take_length] at hown
      obtain ⟨a6, c6, rfl⟩ := own_slice2 hown
      have hcap : ks.length ≤ c6 := by
        rcases hown.2 with ⟨h1, h2⟩ | ⟨g, cap, cur, h1, _, _, h3, _⟩
        · omega
        · simp at h1; omega
      have hown' : wr.ownsRow (w.heap.size + 1) 50 2 (.slice a6 ks.length c6) (whatS R N C p ks).length (pcells (whatS R N C p ks)) := by rw [whatS_len]; exact hown
      obtain ⟨a7, c7, e7, hP⟩ := Prs.of_own hown' (by rw [whatS_len]; omega) (fun x hx => by
        have h1 := List.all_eq_true.1 (seen_what hv ks p hk) x hx
        simp only [isSeenB, isKindB, Bool.and_eq_true, inR_iff] at h1
        have := hv.c4
        omega)
      simp only [Value.slice.injEq] at e7
      obtain ⟨rfl, -, rfl⟩ := e7
      have hnew := own_new2 hown
      have HQ := Hq
      go_wp2
      go_ret2
      refine ⟨hb, a6, c6, ?_, hP, by rw [whatS_len]; exact hcap, fun x hx => by have := hnew x hx; omega⟩
      rw [whatS_len, ← Hq.out.symm]
      simp only [List.take_length] at *
      first | rfl | (rw [Hq.out, List.take_length]; rfl)
end Go.Proofs.Ytmkmnedojgigoaa
