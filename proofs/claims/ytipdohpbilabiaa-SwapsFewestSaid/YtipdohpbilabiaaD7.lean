import Derived.Test.YtipdohpbilabiaaD6
/-! Changes of all boxes, the least of numbers, the fair plan. -/
namespace Go.Proofs.Ytipdohpbilabiaa
set_option linter.unusedSimpArgs false
set_option linter.unusedVariables false
open Go Go.RowKit

attribute [local go_sem] Oper.semAt_some

/-- How many titles of the first k boxes are changed. -/
def chA (V : Vz) (p : Pl) (k : Nat) : Nat := ((List.range k).map (chO V p)).foldl (· + ·) 0
def chT (V : Vz) (p : Pl) : Nat := chA V p V.nb
theorem chA_succ (V : Vz) (p : Pl) (k : Nat) : chA V p (k + 1) = chA V p k + chO V p k := by
  unfold chA
  rw [List.range_succ, List.map_append, List.foldl_append]
  rfl
theorem chA_le (V : Vz) (p : Pl) : ∀ k, chA V p k ≤ 6 * k
  | 0 => Nat.le_refl _
  | k + 1 => by
    have h1 := chA_le V p k
    have h2 := cnt_le (wo (p.get k) (V.now.get k))
    rw [chA_succ]
    unfold chO
    omega

set_option maxRecDepth 100000 in
set_option maxHeartbeats 2000000 in
theorem changes_any (ab ast ae ak : Option Addr) (cb cs ce nk ck : Nat) (V : Vz) (hV : VOk V) (p : Pl) (hp : p.ok 64) (w : World) : Calls Try.prog 87 #[.agg #[.slice ab V.nb cb, .slice ast V.st.length cs, .slice ae V.er.length ce, .slice ak nk ck, .int .i64 V.ch, .int .u8 (V.now.a : Int), .int .u8 (V.now.b : Int), .int .u8 (V.now.c : Int), .int .u8 (V.stay.a : Int), .int .u8 (V.stay.b : Int), .int .u8 (V.stay.c : Int)], .agg #[.int .u8 (p.a : Int), .int .u8 (p.b : Int), .int .u8 (p.c : Int)]] w fun e w' => e = .returned (.int .i64 ((chT V p : Nat) : Int)) ∧ Below w.heap.size w w' := by
  have h3 := hV.nb3
  have hch := fun k (hk : k < 3) v => changesOf_any ab ast ae ak cb cs ce nk ck V hV p hp k hk v
  have hsn := fun k => chA_succ V p k
  have hle := fun k => chA_le V p k
  obtain ⟨W, hW, hb, hs, x0, x1⟩ := boxes2 w #[.slice ab V.nb cb, .slice ast V.st.length cs, .slice ae V.er.length ce, .slice ak nk ck, .int .i64 V.ch, .int .u8 (V.now.a : Int), .int .u8 (V.now.b : Int), .int .u8 (V.now.c : Int), .int .u8 (V.stay.a : Int), .int .u8 (V.stay.b : Int), .int .u8 (V.stay.c : Int)] 72 #[.int .u8 (p.a : Int), .int .u8 (p.b : Int), .int .u8 (p.c : Int)] 70
  clear hs hV
  have hct : chT V p = chA V p V.nb := rfl
  rw [hct]
  clear hct
  have hnI : (V.nb : Int) ≤ 3 := by omega
  have c0 := x0.cell 0 rfl; have c1 := x0.cell 1 rfl; have c2 := x0.cell 2 rfl; have c3 := x0.cell 3 rfl; have c4 := x0.cell 4 rfl; have c5 := x0.cell 5 rfl; have c6 := x0.cell 6 rfl; have c7 := x0.cell 7 rfl; have c8 := x0.cell 8 rfl; have c9 := x0.cell 9 rfl; have c10 := x0.cell 10 rfl; have d0 := x1.cell 0 rfl; have d1 := x1.cell 1 rfl; have d2 := x1.cell 2 rfl
  go_enter Try.func87, Try.ntmps87
  go_wp2
  clear hW
  go_loopw [5, 6, 11] (fun v5 v6 v11 wr => ∃ k : Nat, k ≤ V.nb ∧ v11 = .int .i64 (k : Int) ∧ v5 = .int .i64 ((chA V p k : Nat) : Int) ∧ Below W.heap.size W wr) (fun _ _ v11 _ => V.nb - (intOf v11).toNat)
  case atStart => exact ⟨0, Nat.zero_le _, rfl, rfl, Below.refl _ _⟩
  case round =>
    obtain ⟨k, hk, rfl, rfl, hb1⟩ := hrel
    by_cases hlt : k < V.nb
    · have hc := fun v => hch k (by omega) v
      have hkI : (k : Int) < V.nb := by omega
      have hk0 : (0 : Int) ≤ (k : Int) := by omega
      have h1 := hle k
      have h2 := hsn k
      have h4 := hle (k + 1)
      obtain ⟨a, ha⟩ : ∃ a, a = chA V p k := ⟨_, rfl⟩
      obtain ⟨b, hbb⟩ : ∃ b, b = chO V p k := ⟨_, rfl⟩
      rw [← ha] at h1 h2 ⊢
      rw [← hbb] at h2 hc
      have H2 := hid h2
      have ew : IntKind.i64.wrap ((a : Int) + (b : Int)) = (a : Int) + (b : Int) := IntWalk.i64_in _ (by omega)
      replace x0 := x0.below hb1; replace x1 := x1.below hb1
      have hb2 := hb.trans (hb1.mono hb.size)
      clear ha hbb h2 hch hsn hle c0 c1 c2 c3 c4 c5 c6 c7 c8 c9 c10 d0 d1 d2
      have c0 := x0.cell 0 rfl; have c1 := x0.cell 1 rfl; have c2 := x0.cell 2 rfl; have c3 := x0.cell 3 rfl; have c4 := x0.cell 4 rfl; have c5 := x0.cell 5 rfl; have c6 := x0.cell 6 rfl; have c7 := x0.cell 7 rfl; have c8 := x0.cell 8 rfl; have c9 := x0.cell 9 rfl; have c10 := x0.cell 10 rfl; have d0 := x1.cell 0 rfl; have d1 := x1.cell 1 rfl; have d2 := x1.cell 2 rfl
      go_wp2_with fail
      refine (hc _).mono ?_
      rintro e W2 ⟨rfl, hb3⟩
      have hb4 := hb1.trans (hb3.mono hb1.size)
      clear c0 c1 c2 c3 c4 c5 c6 c7 c8 c9 c10 d0 d1 d2 x0 x1 hc
      go_wp2
      go_roundw
      case rel => exact ⟨k + 1, by omega, by simp, by rw [H2.out]; simp, hb4⟩
      case measure => simp [intOf]; omega
    · obtain rfl : k = V.nb := by omega
      clear c0 c1 c2 c3 c4 c5 c6 c7 c8 c9 c10 d0 d1 d2 x0 x1
      go_wp2
      go_ret
      exact ⟨rfl, hb.trans (hb1.mono hb.size)⟩

theorem ite_min (y m : Int) : (if y < m then y else m) = min m y := by split <;> omega
theorem ite_max (y m : Int) : (if m < y then y else m) = max m y := by split <;> omega
/-- The least of numbers. -/
def minL (xs : List Int) : Int := xs.foldl min (xs.getD 0 0)
def minK (xs : List Int) (k : Nat) : Int := (xs.take k).foldl min (xs.getD 0 0)

set_option maxRecDepth 100000 in
set_option maxHeartbeats 2000000 in
theorem min_any (a : Option Addr) (c : Nat) (xs : List Int) (w : World) (hI : Ints w a xs) (h1 : 1 ≤ xs.length) (h3 : xs.length ≤ 3) : Calls Try.prog 86 #[.slice a xs.length c] w fun e w' => e = .returned (.int .i64 (minL xs)) ∧ w = w' := by
  obtain ⟨b, off, x, rfl, hbl, hc, hx1, hx2, hg, _⟩ := hI.at (k := 0) (by omega)
  rw [Nat.add_zero] at hc
  have h0 : xs.getD 0 0 = x := by rw [List.getD_eq_getElem?_getD, hg.out]; rfl
  have hk1 : minK xs 1 = x := by
    unfold minK
    rw [h0, List.take_add_one, hg.out]
    simp
  have HK1 := hid hk1
  have hml : minL xs = minK xs xs.length := by unfold minL minK; rw [List.take_length]
  rw [hml]
  have hsn : ∀ (k : Nat) (y : Int), xs[k]? = some y → minK xs (k + 1) = min (minK xs k) y := fun k y hy => by
    unfold minK
    rw [List.take_add_one, hy, List.foldl_append]; rfl
  obtain ⟨n, hn⟩ : ∃ n, n = xs.length := ⟨_, rfl⟩
  rw [← hn] at h1 h3 ⊢
  have HN := hid hn
  have hnI : (n : Int) ≤ 3 := by omega
  have hn1 : (1 : Int) ≤ (n : Int) := by omega
  have hn0 : (0 : Int) < (n : Int) := by omega
  clear hn hk1 h0 hml hg
  go_enter Try.func86, Try.ntmps86
  go_wp2
  go_loopw [3, 4] (fun v3 v4 wr => ∃ k : Nat, 1 ≤ k ∧ k ≤ n ∧ v4 = .int .i64 (k : Int) ∧ v3 = .int .i64 (minK xs k) ∧ wr = w) (fun _ v4 _ => n - (intOf v4).toNat)
  case atStart => exact ⟨1, Nat.le_refl _, h1, rfl, by rw [HK1.out], rfl⟩
  case round =>
    obtain ⟨k, hk1, hk, rfl, rfl, rfl⟩ := hrel
    by_cases hlt : k < n
    · obtain ⟨b', off', y, e, hbl', hc', hy1, hy2, hg', _⟩ := hI.at (k := k) (by rw [← HN.out]; exact hlt)
      cases e
      have hs := hsn k y hg'.out
      obtain ⟨m, hm⟩ : ∃ m, m = minK xs k := ⟨_, rfl⟩
      rw [← hm] at hs ⊢
      have HS := hid hs
      have hkI : (k : Int) < n := by omega
      have hk0 : (0 : Int) ≤ (k : Int) := by omega
      have ew : IntKind.i64.wrap ((k : Int) + 1) = (k : Int) + 1 := IntWalk.i64_in _ (by omega)
      clear hs hm hsn hg' hc hbl'
      go_wp2
      go_roundw
      case rel => exact ⟨k + 1, by omega, by omega, by simp, by rw [HS.out, ite_min], trivial⟩
      case measure => simp [intOf]; omega
    · obtain rfl : k = n := by omega
      go_wp2
      go_ret
      exact ⟨rfl, rfl⟩

def fairF (V : Vz) (l : List Pl) : Int := l.foldl (fun f p => max f (minL (earL V p V.nb))) 0
def fairV (V : Vz) : Int := fairF V (plansV V)
theorem fairF_snoc (V : Vz) (l : List Pl) (p : Pl) : fairF V (l ++ [p]) = max (fairF V l) (minL (earL V p V.nb)) := by unfold fairF; rw [List.foldl_append]; rfl

set_option maxRecDepth 100000 in
set_option maxHeartbeats 3000000 in
theorem fair_any (ab ast ae ak : Option Addr) (cb cs ce nk ck : Nat) (V : Vz) (hV : VOk V) (w : World) (hR : Vis w ast ae V) (h1 : 1 ≤ V.nb) : Calls Try.prog 65 #[.agg #[.slice ab V.nb cb, .slice ast V.st.length cs, .slice ae V.er.length ce, .slice ak nk ck, .int .i64 V.ch, .int .u8 (V.now.a : Int), .int .u8 (V.now.b : Int), .int .u8 (V.now.c : Int), .int .u8 (V.stay.a : Int), .int .u8 (V.stay.b : Int), .int .u8 (V.stay.c : Int)]] w fun e w' => e = .returned (.int .i64 (fairV V)) ∧ Below w.heap.size w w' := by
  refine calls_of_wp_marks Try.func65 rfl ?_
  simp only [Try.ntmps65, List.size_toArray, List.length_cons, List.length_nil, Nat.reduceAdd, Nat.reduceSub, Array.replicate_succ, Array.replicate_zero, List.push_toArray, List.append_toArray, List.nil_append, List.cons_append]
  obtain ⟨W0, hW0, hb0, hs0', x0, x1⟩ := boxes2 w #[.slice ab V.nb cb, .slice ast V.st.length cs, .slice ae V.er.length ce, .slice ak nk ck, .int .i64 V.ch, .int .u8 (V.now.a : Int), .int .u8 (V.now.b : Int), .int .u8 (V.now.c : Int), .int .u8 (V.stay.a : Int), .int .u8 (V.stay.b : Int), .int .u8 (V.stay.c : Int)] 72 #[.int .i64 0] 3
  have f0 := x1.free 0
  have e0 := x1.cell 0 rfl
  obtain ⟨W1, hW1⟩ : ∃ W1, W0.setCell ⟨w.heap.size + 1, 0, none⟩ (.int .i64 0) = W1 := ⟨_, rfl⟩
  have hb1 : Below w.heap.size w W1 := by rw [← hW1]; exact hb0.setCell (p := ⟨w.heap.size + 1, 0, none⟩) (by show w.heap.size ≤ w.heap.size + 1; omega) _
  have hs1 : W1.heap.size = w.heap.size + 1 + 1 := by rw [← hW1]; simpa [World.setCell] using hs0'
  replace x0 := x0.other (a := ⟨w.heap.size + 1, 0, none⟩) (by show w.heap.size ≠ w.heap.size + 1; omega) (.int .i64 0)
  replace x1 := x1.set 0 (.int .i64 0)
  rw [hW1] at x0 x1
  replace x1 : Bx W1 (w.heap.size + 1) #[.int .i64 0] 3 := x1
  clear hb0 hs0'
  have hit := plans_iter ab ast ae ak cb cs ce nk ck V hV w.heap.size (W1.heap.size + 2) w W1 hR (Nat.le_refl _) hb1 hb1.size
  have hea := fun (q : Pl) (hq : q.ok (2 ^ V.st.length)) W h => earnsByBox_any ab ast ae ak cb cs ce nk ck V hV q hq W h
  have hok : ∀ q ∈ plansV V, q.ok (2 ^ V.st.length) := fun q => plansV_ok
  have hsn := fun l q => fairF_snoc V l q
  have hf0 : fairF V [] = 0 := rfl
  have hfv : fairV V = fairF V (plansV V) := rfl
  have H1 := hid h1; have H3 := hid hV.nb3
  rw [hfv]
  have hR1 := fun W (h : Below w.heap.size w W) => hR.below h (Nat.le_refl _)
  have hln := fun q => earL_len V q V.nb
  clear hV hR hfv h1
  generalize plansV V = XS at *
  have c0 := x0.cell 0 rfl; have c1 := x0.cell 1 rfl; have c2 := x0.cell 2 rfl; have c3 := x0.cell 3 rfl; have c4 := x0.cell 4 rfl; have c5 := x0.cell 5 rfl; have c6 := x0.cell 6 rfl; have c7 := x0.cell 7 rfl; have c8 := x0.cell 8 rfl; have c9 := x0.cell 9 rfl; have c10 := x0.cell 10 rfl
  go_wp2_with fail
  clear hW1 hW0 f0 e0 c0 c1 c2 c3 c4 c5 c6 c7 c8 c9 c10
  obtain ⟨s0, hs0⟩ : ∃ s0, s0 = w.heap.size := ⟨_, rfl⟩
  obtain ⟨B, hB⟩ : ∃ B, B = W1.heap.size := ⟨_, rfl⟩
  rw [← hs0] at x0 x1 hb1 hit hR1 hs1 ⊢
  have HS0 := hid hs0
  have hsB : B = s0 + 1 + 1 := by rw [hB]; exact hs1
  clear hs0 hs1
  refine wp_rangeFuncB (α := Pl) s0 (by omega) (gf := 85) (bd := #[.agg #[.slice ab V.nb cb, .slice ast V.st.length cs, .slice ae V.er.length ce, .slice ak nk ck, .int .i64 V.ch, .int .u8 (V.now.a : Int), .int .u8 (V.now.b : Int), .int .u8 (V.now.c : Int), .int .u8 (V.stay.a : Int), .int .u8 (V.stay.b : Int), .int .u8 (V.stay.c : Int)]]) (lb := #[]) (encs := encP) (xs := XS) (StI := Below (W1.heap.size + 2)) (St := fun W W' => W1.heap.size ≤ W.heap.size → Below W1.heap.size W W')
    rfl (enters_of Try.func85 (by kernel_rfl) rfl) (fun _ => by rfl) hit (fun W W' h h2 => h.below h2) (fun W W' _ h => h) (fun W W' h _ => h.mono (by omega))
    (fun pre W => W1.heap.size ≤ W.heap.size ∧ Bx W s0 #[.slice ab V.nb cb, .slice ast V.st.length cs, .slice ae V.er.length ce, .slice ak nk ck, .int .i64 V.ch, .int .u8 (V.now.a : Int), .int .u8 (V.now.b : Int), .int .u8 (V.now.c : Int), .int .u8 (V.stay.a : Int), .int .u8 (V.stay.b : Int), .int .u8 (V.stay.c : Int)] 72 ∧ Bx W (s0 + 1) #[.int .i64 (fairF V pre)] 3 ∧ Below s0 w W)
    ?hI ?h0 (fun q a' W => ∃ b4, B + 2 ≤ b4 ∧ Bx W b4 #[.int .u8 (q.a : Int), .int .u8 (q.b : Int), .int .u8 (q.c : Int)] 70 ∧ a' = { tmps := #[.agg #[.slice ab V.nb cb, .slice ast V.st.length cs, .slice ae V.er.length ce, .slice ak nk ck, .int .i64 V.ch, .int .u8 (V.now.a : Int), .int .u8 (V.now.b : Int), .int .u8 (V.now.c : Int), .int .u8 (V.stay.a : Int), .int .u8 (V.stay.b : Int), .int .u8 (V.stay.c : Int)], .pointer (some ⟨s0, 0, none⟩), .int .i64 0, .pointer (some ⟨s0 + 1, 0, none⟩), .pointer (some ⟨b4, 0, none⟩), .agg #[.slice ab V.nb cb, .slice ast V.st.length cs, .slice ae V.er.length ce, .slice ak nk ck, .int .i64 V.ch, .int .u8 (V.now.a : Int), .int .u8 (V.now.b : Int), .int .u8 (V.now.c : Int), .int .u8 (V.stay.a : Int), .int .u8 (V.stay.b : Int), .int .u8 (V.stay.c : Int)], .func (.func 85) #[.agg #[.slice ab V.nb cb, .slice ast V.st.length cs, .slice ae V.er.length ce, .slice ak nk ck, .int .i64 V.ch, .int .u8 (V.now.a : Int), .int .u8 (V.now.b : Int), .int .u8 (V.now.c : Int), .int .u8 (V.stay.a : Int), .int .u8 (V.stay.b : Int), .int .u8 (V.stay.c : Int)]] #[], .agg #[.int .u8 (q.a : Int), .int .u8 (q.b : Int), .int .u8 (q.c : Int)], undef, undef, undef, undef, undef, undef, undef], defers := [] }) ?hAx ?assign ?body ?done
  case hI =>
    rintro pre W W' ⟨i0, i1, i2, i4⟩ hs
    have hs := hs i0
    have f : ∀ {b : Nat} {vs : Array Value} {T : TypeId}, Bx W b vs T → b < B → Bx W' b vs T := fun hx hlt => by
      unfold Bx at *; rw [hs.block _ (by omega)]; exact hx
    exact ⟨Nat.le_trans i0 hs.size, f i1 (by omega), f i2 (by omega), i4.trans (hs.mono (by omega))⟩
  case h0 => exact ⟨Nat.le_refl _, x0, x1, hb1⟩
  case hAx =>
    rintro q a' W W' ⟨b4, h1, h2, h3⟩ hs
    refine ⟨b4, h1, ?_, h3⟩
    unfold Bx at *; rw [hs.block b4 (Bx.lt h2) (by omega) (by omega)]; exact h2
  case assign =>
    rintro l pre q W K hx ⟨i0, i1, i2, i4⟩ hsz hK
    refine wpIn_region_plain rfl ?_
    simp only [encP]
    go_wp2_with fail
    have hb := below_one (w := W) (.cells #[.int .u8 (q.a : Int), .int .u8 (q.b : Int), .int .u8 (q.c : Int)] 70)
    exact hK _ _ (Kept.of_below hb (by omega)) ⟨by simp; omega, i1.alloc _, i2.alloc _, i4.trans (hb.mono (by omega))⟩ ⟨W.heap.size, by omega, Bx.new _ _ _, rfl⟩
  case body =>
    rintro l pre q a' W hx ⟨i0, i1, i2, i4⟩ ⟨b4, h1, h2, rfl⟩ hsz
    have hqm : q ∈ XS := by obtain ⟨r, hr⟩ := hx; rw [hr]; simp
    have hqo := hok q hqm
    have hs1 := hsn pre q
    have hl := hln q
    obtain ⟨f, hf⟩ : ∃ f, f = fairF V pre := ⟨_, rfl⟩
    rw [← hf] at hs1 i2
    have hq1 := fun W h => hea q hqo W h
    obtain ⟨L, hL⟩ : ∃ L, L = earL V q V.nb := ⟨_, rfl⟩
    rw [← hL] at hs1 hl hq1
    have hmn := fun a c W h => min_any a c L W h (by rw [hl]; exact H1.out) (by rw [hl]; exact H3.out)
    rw [hl] at hq1 hmn
    obtain ⟨m, hm⟩ : ∃ m, m = minL L := ⟨_, rfl⟩
    rw [← hm] at hs1 hmn
    have HS1 := hid hs1
    have hbd := (Below.refl W.heap.size W).drew
    clear hs1 hf hm hL hqm hqo hea hok hsn hf0 hx hit x0 x1 hl hln
    have S0 := And.intro (i1.below hbd) (And.intro (h2.below hbd) (i2.below hbd))
    have hk : Kept s0 W1.heap.size W W.drew := Kept.of_below hbd (by omega)
    have hbr := i4.trans (hbd.mono (by omega))
    have hszr : W1.heap.size ≤ W.drew.heap.size := i0
    obtain ⟨nb, hnb⟩ : ∃ nb, nb = V.nb := ⟨_, rfl⟩
    gi_wp2_with fail
    refine wpIn_region_head 6 (fun w' => Bx w' s0 #[.slice ab V.nb cb, .slice ast V.st.length cs, .slice ae V.er.length ce, .slice ak nk ck, .int .i64 V.ch, .int .u8 (V.now.a : Int), .int .u8 (V.now.b : Int), .int .u8 (V.now.c : Int), .int .u8 (V.stay.a : Int), .int .u8 (V.stay.b : Int), .int .u8 (V.stay.c : Int)] 72 ∧ Bx w' b4 #[.int .u8 (q.a : Int), .int .u8 (q.b : Int), .int .u8 (q.c : Int)] 70 ∧ Bx w' (s0 + 1) #[.int .i64 f] 3) (by kernel_rfl) (by kernel_rfl) ?_
    clear i1 i2 h2 hbd hnb
    generalize W.drew = Y0 at *
    refine HeadAt.take (i := 0) (.int .i64 f) rfl (by kernel_rfl) (.inl ⟨rfl, fun w' z => ?_⟩) S0 ?_
    · (have z0 := z.2.2.cell 0 rfl; simp [go_sem, z0])
    refine HeadAt.take (i := 1) (.agg #[.slice ab V.nb cb, .slice ast V.st.length cs, .slice ae V.er.length ce, .slice ak nk ck, .int .i64 V.ch, .int .u8 (V.now.a : Int), .int .u8 (V.now.b : Int), .int .u8 (V.now.c : Int), .int .u8 (V.stay.a : Int), .int .u8 (V.stay.b : Int), .int .u8 (V.stay.c : Int)]) rfl (by kernel_rfl) (.inl ⟨rfl, fun w' z => ?_⟩) S0 ?_
    · (have z0 := z.1.cell 0 rfl; have z1 := z.1.cell 1 rfl; have z2 := z.1.cell 2 rfl; have z3 := z.1.cell 3 rfl; have z4 := z.1.cell 4 rfl; have z5 := z.1.cell 5 rfl; have z6 := z.1.cell 6 rfl; have z7 := z.1.cell 7 rfl; have z8 := z.1.cell 8 rfl; have z9 := z.1.cell 9 rfl; have z10 := z.1.cell 10 rfl; simp [go_sem, z0, z1, z2, z3, z4, z5, z6, z7, z8, z9, z10])
    refine HeadAt.take (i := 2) (.agg #[.int .u8 (q.a : Int), .int .u8 (q.b : Int), .int .u8 (q.c : Int)]) rfl (by kernel_rfl) (.inl ⟨rfl, fun w' z => ?_⟩) S0 ?_
    · (have z0 := z.2.1.cell 0 rfl; have z1 := z.2.1.cell 1 rfl; have z2 := z.2.1.cell 2 rfl; simp [go_sem, z0, z1, z2])
    (try simp only [Act.put, List.getElem_toArray, List.getElem_cons_succ, List.getElem_cons_zero, List.setIfInBounds_toArray, List.set_cons_succ, List.set_cons_zero])
    refine HeadAt.one (i := 3) rfl (by kernel_rfl) ?_
    generalize hK : Upto _ _ = K0
    (try simp only [Act.put, List.getElem_toArray, List.getElem_cons_succ, List.getElem_cons_zero, List.setIfInBounds_toArray, List.set_cons_succ, List.set_cons_zero])
    go_wp2_with fail
    refine (hq1 _ (hR1 _ hbr)).mono ?_
    rintro e V1 ⟨hb5, a, rfl, hIa⟩
    replace S0 := And.intro (S0.1.below hb5) (And.intro (S0.2.1.below hb5) (S0.2.2.below hb5))
    replace hk := hk.trans (Kept.of_below hb5 (by omega))
    replace hbr := hbr.trans (hb5.mono (by omega))
    replace hszr := Nat.le_trans hszr hb5.size
    have hmn1 := hmn _ V.nb _ hIa
    clear hq1 hb5
    go_wp2_with fail
    subst hK
    refine ⟨S0, ?_⟩
    (try simp only [Act.put, List.getElem_toArray, List.getElem_cons_succ, List.getElem_cons_zero, List.setIfInBounds_toArray, List.set_cons_succ, List.set_cons_zero])
    refine HeadAt.one (i := 4) rfl (by kernel_rfl) ?_
    generalize hK : Upto _ _ = K0
    (try simp only [Act.put, List.getElem_toArray, List.getElem_cons_succ, List.getElem_cons_zero, List.setIfInBounds_toArray, List.set_cons_succ, List.set_cons_zero])
    go_wp2_with fail
    refine hmn1.mono ?_
    rintro e V2 ⟨rfl, rfl⟩
    go_wp2_with fail
    subst hK
    refine ⟨S0, ?_⟩
    (try simp only [Act.put, List.getElem_toArray, List.getElem_cons_succ, List.getElem_cons_zero, List.setIfInBounds_toArray, List.set_cons_succ, List.set_cons_zero])
    refine HeadAt.take (i := 5) (.int .i64 (max f m)) rfl (by kernel_rfl) (.inl ⟨rfl, fun w' z => ?_⟩) S0 ?_
    · (simp [go_sem, ite_max])
    refine HeadAt.done (by kernel_rfl) ?_
    (try simp only [Act.put, List.drop_succ_cons, List.drop_zero, List.getElem_toArray, List.getElem_cons_succ, List.getElem_cons_zero])
    have z0 := S0.2.2.cell 0 rfl
    have z1 := S0.2.2.free 0
    have hfin := S0.2.2.set 0 (.int .i64 (max f m))
    have hk3 := hk.trans (Kept.set (p := ⟨s0 + 1, 0, none⟩) (by show s0 ≤ s0 + 1; omega) (by show s0 + 1 < W1.heap.size; omega) (.int .i64 (max f m)))
    have hb3 := hbr.setCell (p := ⟨s0 + 1, 0, none⟩) (by show s0 ≤ s0 + 1; omega) (.int .i64 (max f m))
    have h13 := S0.1.other (a := ⟨s0 + 1, 0, none⟩) (by show s0 ≠ s0 + 1; omega) (.int .i64 (max f m))
    have HH := hid (And.intro hk3 (And.intro h13 (And.intro hfin hb3)))
    clear hk3 hb3 h13 hfin
    go_wp2_with fail
    obtain ⟨hk3, h13, hfin, hb3⟩ := HH.out
    exact ⟨hk3, by have := hk3.below.size; omega, h13, by rw [HS1.out]; simpa using hfin, hb3⟩
  case done =>
    rintro W ⟨i0, i1, i2, i4⟩ hD hsz
    have v0 := i2.cell 0 rfl
    have hM := Marks.one hD
    clear hea hok hsn hf0 hit hR1 x0 x1
    go_wp2_with fail
    refine leaves_marks _ _ hM fun w' hc => ?_
    refine ⟨_, results_tmp rfl _ _ _, rfl, ?_⟩
    rw [← HS0.out]; exact i4.trans (hc.1.mono (by omega))
end Go.Proofs.Ytipdohpbilabiaa
