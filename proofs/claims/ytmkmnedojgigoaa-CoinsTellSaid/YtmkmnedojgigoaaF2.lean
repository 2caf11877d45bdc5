import Derived.Test.YtmkmnedojgigoaaF1
namespace Go.Proofs.Ytmkmnedojgigoaa
open Go.RowKit

def totS (C : List Int) (xs : List (Int × Int)) : Nat := (xs.map (fun k => cw C k.1.toNat)).sum
theorem totS_cons (C : List Int) (x : Int × Int) (xs : List (Int × Int)) : totS C (x :: xs) = cw C x.1.toNat + totS C xs := by simp [totS]

set_option maxRecDepth 100000 in
set_option maxHeartbeats 1000000 in
theorem totalS_any (R : Nat) (an ac ap : Option Addr) (cn cc cp : Nat) (N C P : List Int) (a : Option Addr) (ca : Nat) (xs : List (Int × Int)) (w : World) (hk : Wk w R an ac ap N C P) (hX : Prs w a xs) (hl : xs.length ≤ 20) (hx : xs.all (isSeenB C) = true) :
    Calls Try.prog 89 #[.slice a xs.length ca, .func (.func 90) #[.agg #[.int .i64 (R : Int), .slice an N.length cn, .slice ac C.length cc, .slice ap P.length cp]] #[]] w fun e w' => e = .returned (.int .i64 (totS C xs)) ∧ Below w.heap.size w w' := by
  go_enter Try.func89, Try.ntmps89
  go_wp2
  go_loopw [5, 10] (fun s i wr => ∃ (k q : Nat), k ≤ xs.length ∧ i = .int .i64 k ∧ s = .int .i64 q ∧ q ≤ 100 * k ∧ Below w.heap.size w wr ∧ totS C xs = q + totS C (xs.drop k) ∧ (xs.drop k).all (isSeenB C) = true) (fun _ i _ => xs.length - (intOf i).toNat)
  case atStart => exact ⟨0, 0, Nat.zero_le _, rfl, rfl, by omega, Below.refl _ _, by simp, hx⟩
  case round =>
    obtain ⟨k, q, hk', rfl, rfl, hq, hb, hn, ha⟩ := hrel
    have Hn := hid hn; clear hn
    replace hX := hX.below hb (Nat.le_refl _)
    replace hk := hk.below hb (Nat.le_refl _)
    clear hx
    by_cases hlt : k < xs.length
    · obtain ⟨b, off, x, y, rfl, hbs, hc, hc', _, _, hx, hd⟩ := hX.at hlt
      rw [hd.out, List.all_cons, Bool.and_eq_true, isSeenB, Bool.and_eq_true] at ha
      obtain ⟨n, hxn, hn⟩ := kind_nat ha.1.1
      dsimp only at hxn
      subst hxn
      have h1 := (hk.v.coin hn).2
      have Ha := hid ha.2
      clear ha
      have b1 := below_one (w := wr) (.cells #[.int .i64 n, .int .i64 y] 50)
      replace hk := hk.below b1 (Nat.le_refl _)
      replace hb := hb.trans (b1.mono hb.size)
      clear b1
      go_wp2_with fail
      refine (seenWorth_any _ _ _ _ _ _ _ _ _ _ n y _ hk hn).mono ?_
      rintro e W1 ⟨rfl, hb1⟩
      replace hb := hb.trans (hb1.mono hb.size)
      clear hb1
      go_wp2
      go_roundw
      case rel => exact ⟨k + 1, q + cw C n, by omega, by go_num, by go_num, by omega, hb, by rw [Hn.out, hd.out, totS_cons]; simp; omega, Ha.out⟩
      case measure => simp [intOf]; omega
    · go_wp2
      go_ret
      exact ⟨ret_int (by rw [Hn.out, drop_endP hk' hlt]; simp [totS]), hb⟩

/-- The wheel that stands at p gives what was seen. -/
def gaveB (R : Nat) (N C : List Int) : Nat → List (Int × Int) → Bool
  | _, [] => true
  | p, x :: xs => if (gv R N p (cw C x.1.toNat) : Int) = x.2 then gaveB R N C ((p + cw C x.1.toNat) % R) xs else false

set_option maxRecDepth 100000 in
set_option maxHeartbeats 2000000 in
theorem gave_any (R : Nat) (an ac ap : Option Addr) (cn cc cp : Nat) (N C P : List Int) (p : Nat) (a : Option Addr) (ca : Nat) (xs : List (Int × Int)) (w : World) (hk : Wk w R an ac ap N C P) (hp : p < R) (hX : Prs w a xs) (hl : xs.length ≤ 20) (hx : xs.all (isSeenB C) = true) :
    Calls Try.prog 115 #[.agg #[.int .i64 (R : Int), .slice an N.length cn, .slice ac C.length cc, .slice ap P.length cp], .int .i64 p, .slice a xs.length ca] w fun e w' => e = .returned (.bool (gaveB R N C p xs)) ∧ Below w.heap.size w w' := by
  have hr2 := hk.v.r2
  obtain ⟨W, hW, hb, hs, x0⟩ := boxes1 w #[.int .i64 (R : Int), .slice an N.length cn, .slice ac C.length cc, .slice ap P.length cp] 73
  clear hs
  go_enter Try.func115, Try.ntmps115
  go_wp2
  go_loopw [1, 12] (fun s i wr => ∃ (k q : Nat), k ≤ xs.length ∧ i = .int .i64 k ∧ s = .int .i64 q ∧ q < R ∧ Below w.heap.size w wr ∧ Bx wr w.heap.size #[.int .i64 (R : Int), .slice an N.length cn, .slice ac C.length cc, .slice ap P.length cp] 73 ∧ gaveB R N C p xs = gaveB R N C q (xs.drop k) ∧ (xs.drop k).all (isSeenB C) = true) (fun _ i _ => xs.length - (intOf i).toNat)
  case atStart => exact ⟨0, p, Nat.zero_le _, rfl, rfl, hp, hb, x0, rfl, hx⟩
  case round =>
    clear hb x0 hW hp
    obtain ⟨k, q, hk', rfl, rfl, hq, hb, x0, hn, ha⟩ := hrel
    have Hn := hid hn; clear hn
    replace hX := hX.below hb (Nat.le_refl _)
    replace hk := hk.below hb (Nat.le_refl _)
    clear hx
    by_cases hlt : k < xs.length
    · obtain ⟨b, off, x, y, rfl, hbs, hc, hc', _, _, hx, hd⟩ := hX.at hlt
      rw [hd.out, List.all_cons, Bool.and_eq_true, isSeenB, Bool.and_eq_true] at ha
      obtain ⟨n, hxn, hn⟩ := kind_nat ha.1.1
      dsimp only at hxn
      subst hxn
      have h1 := (hk.v.coin hn).2
      have Ha := hid ha.2
      clear ha
      have b1 := below_one (w := wr) (.cells #[.int .i64 n, .int .i64 y] 50)
      have x1 := Bx.new wr #[.int .i64 n, .int .i64 y] 50
      replace hk := hk.below b1 (Nat.le_refl _)
      replace x0 := x0.below b1
      replace hb := hb.trans (b1.mono hb.size)
      clear b1
      have c0 := x0.cell 0 rfl; have c1 := x0.cell 1 rfl; have c2 := x0.cell 2 rfl; have c3 := x0.cell 3 rfl; have d0 := x1.cell 0 rfl; have d1 := x1.cell 1 rfl
      go_wp2_with fail
      generalize World.alloc wr _ = W0 at *
      generalize hgg : wr.heap.size = g at *
      clear hgg
      refine (seenWorth_any _ _ _ _ _ _ _ _ _ _ n y _ hk hn).mono ?_
      rintro e W1 ⟨rfl, hb1⟩
      replace hk := hk.below hb1 (Nat.le_refl _); (try clear c0 c1 c2 c3); replace x0 := x0.below hb1; have c0 := x0.ext 0 rfl; have c1 := x0.ext 1 rfl; have c2 := x0.ext 2 rfl; have c3 := x0.ext 3 rfl; (try clear d0 d1); replace x1 := x1.below hb1; have d0 := x1.ext 0 rfl; have d1 := x1.ext 1 rfl; replace hb := hb.trans (hb1.mono hb.size); clear hb1
      obtain ⟨G, hG⟩ : ∃ G, G = gv R N q (cw C n) := ⟨_, rfl⟩
      have HG := hid hG
      have hgv : ∀ t : Ext W1, Calls Try.prog 69 #[.agg #[.int .i64 (R : Int), .slice an N.length cn, .slice ac C.length cc, .slice ap P.length cp], .int .i64 q, .int .i64 (cw C n)] t.w fun e w' => e = .returned (.int .i64 G) ∧ Below t.w.heap.size t.w w' := fun t => by
        rw [hG]
        exact gives_any _ _ _ _ _ _ _ _ _ _ q (cw C n) _ (hk.below t.below (Nat.le_refl _)) (by omega) (by omega)
      have Hgv := hid hgv
      clear hgv hG
      by_cases hgy : (G : Int) = y
      · have hB : ((G : Int) != y) = false := by simp [hgy]
        have Hgy := hid hgy; clear hgy
        go_wp2_with fail
        refine wp_region_ext_lit (by kernel_rfl) (by kernel_rfl) ?_
        repeat (quiet_step (first | (go_at_call 69; exact quiet_ext (Hgv.out _))))
        refine wpQuiet_nil ?_
        intro _ hw'
        obtain ⟨t, rfl⟩ := hw'
        replace x0 := x0.below t.below
        replace hk := hk.below t.below (Nat.le_refl _)
        replace hb := hb.trans (t.below.mono hb.size)
        generalize t.w = W2 at *
        clear c0 c1 c2 c3 d0 d1 x1 Hgv
        have c0 := x0.cell 0 rfl; have c1 := x0.cell 1 rfl; have c2 := x0.cell 2 rfl; have c3 := x0.cell 3 rfl
        go_wp2_with fail
        refine (turned_any _ _ _ _ _ _ _ _ _ _ q (cw C n) _ hk.v (by omega) (by omega)).mono ?_
        rintro e W3 ⟨rfl, hb1⟩
        replace x0 := x0.below hb1; replace hb := hb.trans (hb1.mono hb.size); clear hb1
        go_wp2
        go_roundw
        case rel => exact ⟨k + 1, (q + cw C n) % R, by omega, by go_num, rfl, Nat.mod_lt _ (by omega), hb, x0, by rw [Hn.out, hd.out, gaveB, if_pos (by rw [← Hgy.out, HG.out]; simp)]; simp, Ha.out⟩
        case measure => simp [intOf]; omega
      · have hB : ((G : Int) != y) = true := by simp [hgy]
        have Hgy := hid hgy; clear hgy
        go_wp2_with fail
        refine wp_region_ext_lit (by kernel_rfl) (by kernel_rfl) ?_
        repeat (quiet_step (first | (go_at_call 69; exact quiet_ext (Hgv.out _))))
        refine wpQuiet_nil ?_
        intro _ hw'
        obtain ⟨t, rfl⟩ := hw'
        replace hb := hb.trans (t.below.mono hb.size)
        generalize t.w = W2 at *
        clear c0 c1 c2 c3 d0 d1 x1 Hgv x0 hk
        go_wp2
        go_ret
        exact ⟨ret_bool (by rw [Hn.out, hd.out, gaveB, if_neg (by have := Hgy.out; rw [HG.out] at this; simpa using this)]), hb⟩
    · go_wp2
      go_ret
      exact ⟨ret_bool (by rw [Hn.out, drop_endP hk' hlt]; simp [gaveB]), hb⟩
end Go.Proofs.Ytmkmnedojgigoaa
