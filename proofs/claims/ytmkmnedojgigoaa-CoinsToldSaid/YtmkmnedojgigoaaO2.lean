import Derived.Test.YtmkmnedojgigoaaL2
import Derived.Test.YtmkmnedojgigoaaP8
namespace Go.Proofs.Ytmkmnedojgigoaa
open Go.RowKit

set_option maxRecDepth 100000 in
set_option maxHeartbeats 1000000 in
theorem areSeen_any (r : Int) (an ac : Option Addr) (cn cc : Nat) (N C : List Int) (a : Option Addr) (ca : Nat) (xs : List (Int × Int)) (w : World) (hC : Ints w ac C) (hX : Prs w a xs) :
    Calls Try.prog 86 #[.agg #[.int .i64 r, .slice an N.length cn, .slice ac C.length cc], .slice a xs.length ca] w fun e w' => e = .returned (.bool (xs.all (isSeenB C) && decide ((xs.length : Int) ≤ 20))) ∧ Below w.heap.size w w' := by
  have hm := hX.1
  have hcl := hC.len
  clear hC
  obtain ⟨W, hW, hb, hs, x0⟩ := boxes1 w #[.int .i64 r, .slice an N.length cn, .slice ac C.length cc] 24
  clear hs
  replace hX := hX.below hb (Nat.le_refl _)
  have c0 := x0.cell 0 rfl; have c1 := x0.cell 1 rfl; have c2 := x0.cell 2 rfl
  go_enter Try.func86, Try.ntmps86
  go_wp2
  clear hW c0 c1 c2
  go_loopw [5] (fun i wr => ∃ (k : Nat), k ≤ xs.length ∧ i = .int .i64 k ∧ Qd W wr ∧ xs.all (isSeenB C) = (xs.drop k).all (isSeenB C)) (fun i _ => xs.length - (intOf i).toNat)
  case atStart => exact ⟨0, Nat.zero_le _, rfl, Qd.refl _, rfl⟩
  case round =>
    obtain ⟨k, hk, rfl, hq, hn⟩ := hrel
    have Hn := hid hn; clear hn
    replace hX := hX.below (hq.below W.heap.size) (Nat.le_refl _)
    have x1 := x0.below (hq.below _)
    have c0 := x1.cell 0 rfl; have c1 := x1.cell 1 rfl; have c2 := x1.cell 2 rfl
    by_cases hlt : k < xs.length
    · obtain ⟨b, off, x, y, rfl, hbs, hc, hc', _, _, hx, hd⟩ := hX.at hlt
      have hkI : (k : Int) < (xs.length : Int) := by omega
      have hk0 : (0 : Int) ≤ (k : Int) := by omega
      cases he : inR 0 x (C.length - 1)
      · go_wp2
        go_quiet ((go_at_call 58; exact quiet_eq (within_any _ _ _ _)))
        go_wp2
        go_ret
        exact ⟨ret_bool (by rw [Hn.out, hd.out]; simp only [List.all_cons, isSeenB, isKindB, he, Bool.false_and]), hb.trans ((hq.drewN _).below _ |>.mono hb.size)⟩
      · cases he2 : inR 0 y 2400
        · go_wp2
          go_quiet ((go_at_call 58; exact quiet_eq (within_any _ _ _ _)))
          go_wp2
          go_ret
          exact ⟨ret_bool (by rw [Hn.out, hd.out]; simp only [List.all_cons, isSeenB, isKindB, he, he2, Bool.false_and, Bool.and_false]), hb.trans ((hq.drewN _).below _ |>.mono hb.size)⟩
        · go_wp2
          go_quiet ((go_at_call 58; exact quiet_eq (within_any _ _ _ _)))
          go_wp2
          go_roundw
          case rel => exact ⟨k + 1, by omega, by go_num, hq.drewN _, by rw [Hn.out, hd.out]; simp only [List.all_cons, isSeenB, isKindB, he, he2, Bool.true_and]⟩
          case measure => simp [intOf]; omega
    · go_wp2
      go_ret
      exact ⟨ret_bool (by rw [Hn.out, drop_endP hk hlt]; simp), hb.trans (hq.below _ |>.mono hb.size)⟩

/-- What Gives answers. -/
def giv (R : Nat) (N C : List Int) (p : Nat) (xs : List (Int × Int)) : Int := if gaveB R N C p xs then ((p + totS C xs) % R : Nat) else -1

theorem giv_cons (R : Nat) (N C : List Int) (q n : Nat) (y : Int) (xs : List (Int × Int)) : giv R N C q (((n : Int), y) :: xs) = if ((gv R N q (cw C n) : Nat) : Int) = y then giv R N C ((q + cw C n) % R) xs else -1 := by
  unfold giv
  rw [gaveB, totS_cons, Int.toNat_natCast]
  split
  · rw [Nat.mod_add_mod, Nat.add_assoc]
  · rfl

set_option maxRecDepth 100000 in
set_option maxHeartbeats 1000000 in
theorem givesR_any (R : Nat) (an ac : Option Addr) (cn cc : Nat) (N C : List Int) (p : Nat) (a : Option Addr) (ca : Nat) (xs : List (Int × Int)) (w : World) (hN : Ints w an N) (hC : Ints w ac C) (hX : Prs w a xs) (hv : Vw R N C) (hp : p < R) (hx : xs.all (isSeenB C) = true) (hl : xs.length ≤ 20) :
    Calls Try.prog 87 #[.agg #[.int .i64 (R : Int), .slice an N.length cn, .slice ac C.length cc], .int .i64 p, .slice a xs.length ca] w fun e w' => e = .returned (.int .i64 (giv R N C p xs)) ∧ Below w.heap.size w w' := by
  have r1 := hv.r1
  have r2 := hv.r2
  have hN0 := hN; have hC0 := hC; have hX0 := hX
  obtain ⟨W, hW, hb, hs, x0⟩ := boxes1 w #[.int .i64 (R : Int), .slice an N.length cn, .slice ac C.length cc] 24
  clear hs hN hC hX
  go_enter Try.func87, Try.ntmps87
  go_wp2
  clear hW
  go_loopw [1, 7] (fun s1 s7 wr => ∃ (k q : Nat), k ≤ xs.length ∧ s7 = .int .i64 k ∧ s1 = .int .i64 q ∧ q < R ∧ giv R N C p xs = giv R N C q (xs.drop k) ∧ (xs.drop k).all (isSeenB C) = true ∧ Below w.heap.size w wr ∧ Bx wr w.heap.size #[.int .i64 (R : Int), .slice an N.length cn, .slice ac C.length cc] 24) (fun _ s7 _ => xs.length - (intOf s7).toNat)
  case atStart => exact ⟨0, p, Nat.zero_le _, rfl, rfl, hp, rfl, hx, hb, x0⟩
  case round =>
    clear hb x0 hx
    obtain ⟨k, q, hk', rfl, rfl, hq, hn, ha, hb, x0⟩ := hrel
    have Hn := hid hn; clear hn
    by_cases hlt : k < xs.length
    · have hX := hX0.below hb (Nat.le_refl _); have hC := hC0.below hb (Nat.le_refl _); have hN := hN0.below hb (Nat.le_refl _)
      obtain ⟨b, off, x, y, rfl, hbs, hc, hc2, _, _, hx, hd⟩ := hX.at hlt
      rw [hd.out, List.all_cons, Bool.and_eq_true, isSeenB, Bool.and_eq_true] at ha
      obtain ⟨n, hxn, hnl⟩ := kind_nat ha.1.1
      dsimp only at hxn
      subst hxn
      have Ha := hid ha.2
      obtain ⟨bc, offc, z, rfl, hbc, hcc, _, _, hy, _⟩ := hC.at hnl
      have hco := hv.coin hnl
      have hye : z = (cw C n : Int) := by have := hy.out; rw [hco.1] at this; simpa using this.symm
      subst hye
      have hgc := giv_cons R N C q n y (xs.drop (k + 1))
      rw [← hd.out] at hgc
      obtain ⟨c, hce⟩ : ∃ c, c = cw C n := ⟨_, rfl⟩
      rw [← hce] at hcc hco hgc
      obtain ⟨G, hG⟩ : ∃ G, G = gv R N q c := ⟨_, rfl⟩
      obtain ⟨q', hq'⟩ : ∃ q', q' = (q + c) % R := ⟨_, rfl⟩
      rw [← hG, ← hq'] at hgc
      have hql : q' < R := by rw [hq']; exact Nat.mod_lt _ r1
      have hpu : ∀ t : Ext wr, Calls Try.prog 72 #[.agg #[.int .i64 (R : Int), .slice an N.length cn, .slice (some ⟨bc, offc, none⟩) C.length cc], .int .i64 q, .int .i64 c] t.w fun e w' => e = .returned (.tuple #[.int .i64 q', .int .i64 G]) ∧ Below t.w.heap.size t.w w' := fun t => by
        rw [hG, hq']
        exact put_any R an _ cn cc N C q c t.w (hN.below t.below (Nat.le_refl _)) hv hq (by omega)
      have Hg := hid hgc
      clear ha hgc hG hq' hco hce hx hy hd
      have hkI : (k : Int) < (xs.length : Int) := by omega
      have hnI : (n : Int) < (C.length : Int) := by omega
      have hk0 : (0 : Int) ≤ (k : Int) := by omega
      have hn0 : (0 : Int) ≤ (n : Int) := by omega
      have d0 := x0.ext 0 rfl; have d1 := x0.ext 1 rfl; have d2 := x0.ext 2 rfl
      have d3 := Ext.cell hc; have d4 := Ext.cell hcc
      go_wp2_with fail
      refine wp_region_ext_lit (by kernel_rfl) (by kernel_rfl) ?_
      repeat (quiet_step (first | (go_at_call 72; exact quiet_ext (hpu _))))
      refine wpQuiet_nil ?_
      intro _ hw'
      obtain ⟨t, rfl⟩ := hw'
      have hbt := t.below
      replace hb := hb.trans (hbt.mono hb.size)
      replace x0 := x0.below hbt
      have hcy := Below.keep hbt hc2
      clear hX hC hN hpu d0 d1 d2 d3 d4
      generalize t.w = Y0 at *
      clear hbt hc hcc hc2
      by_cases hG : (G : Int) = y
      · have hB : ((G : Int) != y) = false := by simp [hG]
        have HG := hid hG; clear hG
        go_wp2
        go_roundw
        case rel => exact ⟨k + 1, q', by omega, by go_num, rfl, hql, by rw [Hn.out, Hg.out, if_pos HG.out], Ha.out, hb, x0⟩
        case measure => simp [intOf]; omega
      · have hB : ((G : Int) != y) = true := by simp [hG]
        have HG := hid hG; clear hG
        go_wp2
        go_ret
        exact ⟨ret_int (by rw [Hn.out, Hg.out, if_neg HG.out]), hb⟩
    · go_wp2
      go_ret
      exact ⟨ret_int (by rw [Hn.out, drop_endP hk' hlt]; simp [giv, gaveB, totS, Nat.mod_eq_of_lt hq]), hb⟩
end Go.Proofs.Ytmkmnedojgigoaa
namespace Go.Proofs.Ytmkmnedojgigoaa
open Go.RowKit

def seenOk (C : List Int) (xs : List (Int × Int)) : Bool := xs.all (isSeenB C) && decide ((xs.length : Int) ≤ 20)
theorem seenOk_iff {C : List Int} {xs : List (Int × Int)} : seenOk C xs = (decide (xs.length ≤ 20) && xs.all (isSeenB C)) := by
  unfold seenOk
  rw [Bool.and_comm]
  congr 1
  rw [Bool.eq_iff_iff]; simp; omega
theorem giv_ge (R : Nat) (N C : List Int) (p : Nat) (xs : List (Int × Int)) : decide (0 ≤ giv R N C p xs) = gaveB R N C p xs := by
  unfold giv
  split
  · rename_i h; rw [h]; exact decide_eq_true (Int.natCast_nonneg _)
  · rename_i h; simp at h; rw [h]; rfl

def CouldPost (L : List Int) (w : World) (e : Ending) (w' : World) : Prop :=
  (L = [] → e = .returned (.tuple #[.slice none 0 0, .int .i64 3]) ∧ Below w.heap.size w w') ∧ (L ≠ [] → RowPost2 L w e w')

set_option maxRecDepth 100000 in
set_option maxHeartbeats 1000000 in
theorem rCould_bad (r : Int) (an ac : Option Addr) (cn cc : Nat) (N C : List Int) (a : Option Addr) (ca : Nat) (xs : List (Int × Int)) (w : World) (hN : Ints w an N) (hC : Ints w ac C) (hv : validB r N C = false) :
    Calls Try.prog 40 #[.agg #[.int .i64 r, .slice an N.length cn, .slice ac C.length cc], .slice a xs.length ca] w fun e w' => e = .returned (.tuple #[.slice none 0 0, .int .i64 10]) ∧ Below w.heap.size w w' := by
  have hk : chk r N C = 10 := by simp [chk, hv]
  obtain ⟨W, hW, hb, hs, x0⟩ := boxes1 w #[.int .i64 r, .slice an N.length cn, .slice ac C.length cc] 24
  clear hs
  replace hN := hN.below hb (Nat.le_refl _); replace hC := hC.below hb (Nat.le_refl _)
  have c0 := x0.cell 0 rfl; have c1 := x0.cell 1 rfl; have c2 := x0.cell 2 rfl
  go_enter Try.func40, Try.ntmps40
  go_wp2_with fail
  refine (refCheck_any _ _ _ _ _ _ _ _ hN hC).mono ?_
  rintro e W1 ⟨rfl, hb1⟩
  rw [hk]
  replace hb := hb.trans (hb1.mono hb.size); clear hb1
  clear x0 c0 c1 c2 hW
  go_wp2
  go_ret2
  exact ⟨rfl, hb⟩

set_option maxRecDepth 100000 in
set_option maxHeartbeats 1000000 in
theorem rCould_arg (R : Nat) (an ac : Option Addr) (cn cc : Nat) (N C : List Int) (a : Option Addr) (ca : Nat) (xs : List (Int × Int)) (w : World) (hN : Ints w an N) (hC : Ints w ac C) (hX : Prs w a xs) (hv : Vw R N C) (ho : seenOk C xs = false) :
    Calls Try.prog 40 #[.agg #[.int .i64 (R : Int), .slice an N.length cn, .slice ac C.length cc], .slice a xs.length ca] w fun e w' => e = .returned (.tuple #[.slice none 0 0, .int .i64 1]) ∧ Below w.heap.size w w' := by
  have hk : chk (R : Int) N C = 0 := by simp [chk, hv.valid]
  obtain ⟨W, hW, hb, hs, x0⟩ := boxes1 w #[.int .i64 (R : Int), .slice an N.length cn, .slice ac C.length cc] 24
  clear hs
  replace hN := hN.below hb (Nat.le_refl _); replace hC := hC.below hb (Nat.le_refl _); replace hX := hX.below hb (Nat.le_refl _)
  have c0 := x0.cell 0 rfl; have c1 := x0.cell 1 rfl; have c2 := x0.cell 2 rfl
  go_enter Try.func40, Try.ntmps40
  go_wp2_with fail
  refine (refCheck_any _ _ _ _ _ _ _ _ hN hC).mono ?_
  rintro e W1 ⟨rfl, hb1⟩
  rw [hk]
  clear hW
  replace hC := hC.below hb1 (Nat.le_refl _); replace hX := hX.below hb1 (Nat.le_refl _); (try clear c0 c1 c2); replace x0 := x0.below hb1; have c0 := x0.cell 0 rfl; have c1 := x0.cell 1 rfl; have c2 := x0.cell 2 rfl; replace hb := hb.trans (hb1.mono hb.size); clear hb1
  go_wp2_with fail
  refine (areSeen_any _ _ _ _ _ _ _ a ca xs _ hC hX).mono ?_
  rintro e W2 ⟨rfl, hb1⟩
  rw [show (xs.all (isSeenB C) && decide ((xs.length : Int) ≤ 20)) = false from ho]
  replace hb := hb.trans (hb1.mono hb.size); clear hb1
  clear x0 c0 c1 c2
  go_wp2
  go_ret2
  exact ⟨rfl, hb⟩

set_option maxRecDepth 100000 in
set_option maxHeartbeats 1000000 in
theorem rCould_ok (R : Nat) (an ac : Option Addr) (cn cc : Nat) (N C : List Int) (a : Option Addr) (ca : Nat) (xs : List (Int × Int)) (w : World) (hN : Ints w an N) (hC : Ints w ac C) (hX : Prs w a xs) (hv : Vw R N C) (ho : seenOk C xs = true) :
    Calls Try.prog 40 #[.agg #[.int .i64 (R : Int), .slice an N.length cn, .slice ac C.length cc], .slice a xs.length ca] w (CouldPost (bef R N C xs R) w) := by
  obtain ⟨j0, hj, jz0, jz1, jz2⟩ := info_parts info3
  have hk : chk (R : Int) N C = 0 := by simp [chk, hv.valid]
  have r2 := hv.r2
  have hsn := ho
  rw [seenOk, Bool.and_eq_true, decide_eq_true_eq] at hsn
  have hN0 := hN; have hC0 := hC; have hX0 := hX
  obtain ⟨W, hW, hb, hs, x0⟩ := boxes1 w #[.int .i64 (R : Int), .slice an N.length cn, .slice ac C.length cc] 24
  clear hs hN hC hX
  have c0 := x0.cell 0 rfl; have c1 := x0.cell 1 rfl; have c2 := x0.cell 2 rfl
  go_enter Try.func40, Try.ntmps40
  go_wp2_with fail
  refine (refCheck_any _ _ _ _ _ _ _ _ (hN0.below hb (Nat.le_refl _)) (hC0.below hb (Nat.le_refl _))).mono ?_
  rintro e W1 ⟨rfl, hb1⟩
  rw [hk]
  clear hW
  (try clear c0 c1 c2); replace x0 := x0.below hb1; have c0 := x0.cell 0 rfl; have c1 := x0.cell 1 rfl; have c2 := x0.cell 2 rfl; replace hb := hb.trans (hb1.mono hb.size); clear hb1
  go_wp2_with fail
  refine (areSeen_any _ _ _ _ _ _ _ a ca xs _ (hC0.below hb (Nat.le_refl _)) (hX0.below hb (Nat.le_refl _))).mono ?_
  rintro e W2 ⟨rfl, hb1⟩
  rw [show (xs.all (isSeenB C) && decide ((xs.length : Int) ≤ 20)) = true from ho]
  replace x0 := x0.below hb1; replace hb := hb.trans (hb1.mono hb.size); clear hb1
  clear c0 c1 c2 ho hk
  have lz := x0.lt
  go_wp2_with fail
  go_loopw [7, 8] (fun s7 s8 wr => ∃ (n : Nat), n ≤ R ∧ s8 = .int .i64 n ∧ wr.ownsRow (w.heap.size + 1) 3 1 s7 (bef R N C xs n).length ((bef R N C xs n).map (Value.int .i64)) ∧ Below w.heap.size w wr ∧ Bx wr w.heap.size #[.int .i64 (R : Int), .slice an N.length cn, .slice ac C.length cc] 24) (fun _ s8 _ => R - (intOf s8).toNat)
  case atStart => exact ⟨0, Nat.zero_le _, rfl, World.ownsRow_nil _ _ _ _, hb, x0⟩
  case round =>
    clear hb x0 lz
    obtain ⟨n, hn, rfl, hown, hb, x0⟩ := hrel
    have hbl := bef_len R N C xs n
    by_cases hlt : n < R
    · have c0 := x0.cell 0 rfl; have c1 := x0.cell 1 rfl; have c2 := x0.cell 2 rfl
      cases hg : gaveB R N C n xs
      · have hs : bef R N C xs (n + 1) = bef R N C xs n := by simp [bef, hg]
        have HS := hid hs; clear hs
        go_wp2_with fail
        refine (givesR_any _ _ _ _ _ _ _ n a ca xs _ (hN0.below hb (Nat.le_refl _)) (hC0.below hb (Nat.le_refl _)) (hX0.below hb (Nat.le_refl _)) hv hlt hsn.1 (by omega)).mono ?_
        rintro e W3 ⟨rfl, hb1⟩
        have hge : decide (0 ≤ giv R N C n xs) = false := by rw [giv_ge]; exact hg
        replace hown := own_below hown hb1
        clear c0 c1 c2
        replace x0 := x0.below hb1; replace hb := hb.trans (hb1.mono hb.size); clear hb1
        obtain ⟨a7, c7, rfl⟩ := own_slice hown
        go_wp2_with fail
        go_roundw
        case rel => exact ⟨n + 1, by omega, by go_num, by rw [HS.out]; exact hown, hb, x0⟩
        case measure => simp [intOf]; omega
      · have hs : bef R N C xs (n + 1) = bef R N C xs n ++ [(n : Int)] := by simp [bef, hg]
        have HS := hid hs; clear hs
        go_wp2_with fail
        refine (givesR_any _ _ _ _ _ _ _ n a ca xs _ (hN0.below hb (Nat.le_refl _)) (hC0.below hb (Nat.le_refl _)) (hX0.below hb (Nat.le_refl _)) hv hlt hsn.1 (by omega)).mono ?_
        rintro e W3 ⟨rfl, hb1⟩
        have hge : decide (0 ≤ giv R N C n xs) = true := by rw [giv_ge]; exact hg
        replace hown := own_below hown hb1
        clear c0 c1 c2
        replace x0 := x0.below hb1; replace hb := hb.trans (hb1.mono hb.size); clear hb1
        obtain ⟨a7, c7, rfl⟩ := own_slice hown
        have lz := x0.lt
        have hb1 := below_one (w := W3) (.cells #[.int .i64 (n : Int)] 3)
        have hown1 := own_below hown hb1
        have hnew := Cls.of_bx (Bx.new W3 #[.int .i64 (n : Int)] 3)
        go_wp2_with (at_builtin; refine wpList_app rfl (.tmp 29) (.tmp 31) 22 rfl (w.heap.size + 1) 3 j0 (.int .i64 0) 1 8 under22 hj jz0 jz1 jz2 rfl (by decide) _ (bef R N C xs n).length _ rfl hown1 (some ⟨W3.heap.size, 0, none⟩) 1 1 [.int .i64 (n : Int)] rfl rfl hnew (ints_one [(n : Int)]) (by unfold maxLen; omega) (by omega) (by simp; omega) ?_; intro v1 Y2 hown2 hgr)
        have hge2 := own_ge hown1
        replace hb : Below w.heap.size w Y2 := (hb.trans (hb1.mono hb.size)).grown hgr (by have := hb.size; simp; omega) (fun k hk => by have := hge2 k hk; omega)
        replace x0 := (x0.below hb1).gb hgr (fun k hk => by have := hge2 k hk; omega)
        obtain ⟨a8, c8, rfl⟩ := own_slice hown2
        go_roundw
        case rel => exact ⟨n + 1, by omega, by go_num, by rw [HS.out, List.length_append, List.map_append]; exact hown2, hb, x0⟩
        case measure => simp [intOf]; omega
    · have he : n = R := by omega
      subst he
      obtain ⟨a7, c7, rfl⟩ := own_slice hown
      obtain ⟨a8, c8, e8, hI⟩ := Ints.of_own hown (by omega) (fun x hx => by
        obtain ⟨q, h1, h2, _⟩ := (bef_iff n N C xs x n).1 hx
        omega)
      simp only [Value.slice.injEq] at e8
      obtain ⟨rfl, -, rfl⟩ := e8
      have hnew := own_new hown
      by_cases hz : bef n N C xs n = []
      · have hzl : (((bef n N C xs n).length : Int) == 0) = true := by simp [hz]
        have HZ := hid hz; clear hz
        have c0 := x0.cell 0 rfl; have c1 := x0.cell 1 rfl; have c2 := x0.cell 2 rfl
        go_wp2
        go_ret2
        exact ⟨fun _ => ⟨rfl, hb⟩, fun h => absurd HZ.out h⟩
      · have hzl : (((bef n N C xs n).length : Int) == 0) = false := by
          rw [beq_eq_false_iff_ne]
          intro h
          exact hz (List.eq_nil_of_length_eq_zero (by omega))
        have HZ := hid hz; clear hz
        have c0 := x0.cell 0 rfl; have c1 := x0.cell 1 rfl; have c2 := x0.cell 2 rfl
        go_wp2
        go_ret2
        exact ⟨fun h => absurd h HZ.out, fun _ => ⟨hb, a7, c7, rfl, hI, fun x hx => by have := hnew x hx; omega⟩⟩
end Go.Proofs.Ytmkmnedojgigoaa
