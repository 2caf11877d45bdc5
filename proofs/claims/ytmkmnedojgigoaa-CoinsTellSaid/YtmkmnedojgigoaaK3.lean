import Derived.Test.YtmkmnedojgigoaaI3
import Derived.Test.YtmkmnedojgigoaaQ3
import Derived.Deep.DeepCutAuto
namespace Go.Proofs.Ytmkmnedojgigoaa
open Go.RowKit

/-- A slice reads as these cells. -/
def Cls (w : World) (A : Option Addr) (vs : List Value) : Prop := ∀ j u, vs[j]? = some u → ∃ b off, A = some ⟨b, off, none⟩ ∧ b < w.heap.size ∧ w.cell? ⟨b, off + j, none⟩ = some u
theorem Cls.below {w w' : World} {A : Option Addr} {vs : List Value} (h : Cls w A vs) {B : Nat} (hb : Below B w w') (hB : w.heap.size ≤ B) : Cls w' A vs := fun j u hj => by
  obtain ⟨b, off, ha, hlt, hc⟩ := h j u hj
  have hs := hb.size
  exact ⟨b, off, ha, by omega, by rw [hb.cell (p := ⟨b, off + j, none⟩) (by show b < B; omega)]; exact hc⟩
theorem Cls.nil {w : World} {vs : List Value} (h : Cls w none vs) : vs = [] := by
  rcases vs with _ | ⟨u, us⟩
  · rfl
  · obtain ⟨b, off, ha, _⟩ := h 0 u rfl
    cases ha
theorem Ints.cls {w : World} {A : Option Addr} {xs : List Int} (h : Ints w A xs) : Cls w A (xs.map (Value.int .i64)) := fun j u hj => by
  rw [List.getElem?_map] at hj
  have hlt : j < xs.length := by
    rcases Nat.lt_or_ge j xs.length with hl | hl
    · exact hl
    · rw [List.getElem?_eq_none hl] at hj; cases hj
  obtain ⟨b, off, ha, hb, hc⟩ := h.2.2 j hlt
  refine ⟨b, off, ha, hb, ?_⟩
  rw [hc, ← hj]
  simp [List.getD, hlt]

theorem ints_one (xs : List Int) : ∀ u ∈ xs.map (Value.int .i64), u.oneCell' = true := fun u hu => by
  obtain ⟨x, _, rfl⟩ := List.mem_map.1 hu
  rfl

section
variable {P : Program} {w : World}
/-- append of nothing. -/
theorem run_app_nil (base : Nat) (t ty e : TypeId) (i : TypeInfo) (size : Nat) (ht : P.underlying t = some (.slice e)) (hi : P.info? e = some i)
    (v : Value) (n : Nat) (xs : List Value) (hown : w.ownsRow base e size v n xs) (c : Nat) : (Builtin.append_ #[t, t] ty #[v, .slice none 0 c]).run P w = .ok v w := by
  rcases hown.2 with ⟨rfl, rfl⟩ | ⟨g, cap, cur, rfl, _, _, hnc, _⟩
  · simp [Builtin.append_, run_underlying ht, sizeOf, typeInfo, hi, Builtin.lenOf, Builtin.firstCells]
  · simp [Builtin.append_, run_underlying ht, sizeOf, typeInfo, hi, Builtin.lenOf, Builtin.firstCells, hnc, storeCells]

/-- append of a slice that is read, nil or not, to a row of the call's own. -/
theorem wpList_app {ops : Array Oper} {rest : List Oper} {o : Oper} {a : Act} {Q : Exit → Act → World → Prop} (hgd : o.guard = none) (s x : Operand) (t : TypeId)
    (ho : o.op = .call { callee := .builtin .append, args := #[s, x], argTypes := #[t, t] })
    (base : Nat) (e : TypeId) (i : TypeInfo) (z : Value) (size bytes : Nat) (ht : P.underlying t = some (.slice e)) (hi : P.info? e = some i) (hz : i.zero = some z)
    (hsize : i.size = size) (hby : i.bytes = bytes) (hzs : z.cells.size = size) (hsz : 0 < size)
    (v : Value) (n : Nat) (xs : List Value) (hs : a.eval s = v) (hown : w.ownsRow base e size v n xs)
    (A : Option Addr) (m c : Nat) (news : List Value) (hx : a.eval x = .slice A m c) (hl : news.length = m * size) (hr : Cls w A news) (h1 : ∀ u ∈ news, u.oneCell' = true)
    (h63 : n + m ≤ maxLen) (hbytes : (n + m) * bytes ≤ 140737488355328) (hbase : base ≤ w.heap.size)
    (h : ∀ v' w', w'.ownsRow base e size v' (n + m) (xs ++ news) → w.grownBy w' v.ownBlock → wpList P ops Q rest (a.put o.dst v') w') : wpList P ops Q (o :: rest) a w := by
  rcases A with _ | ad
  · have hn := hr.nil
    subst hn
    have hm : m = 0 := by
      rcases Nat.eq_zero_or_pos m with h0 | h0
      · exact h0
      · have := Nat.mul_pos h0 hsz
        simp at hl; omega
    subst hm
    refine wpList_plain hgd fun K hK => ?_
    have hrun := run_app_nil (P := P) base t o.type e i size ht hi v n xs hown c
    unfold Oper.wp
    simp [execOp, ho, resolve, invoke, builtin, hs, hx, hrun, Result.andThen]
    exact hK _ _ (h v w (by simpa using hown) (World.grownBy.refl w _))
  · refine wpList_append_own _ hgd s x t ho base e i z size bytes ht hi hz hsize hby hzs hsz v n xs hs hown ad m c news hx hl (fun j u hj => ?_) h1 h63 hbytes hbase (fun v' w' h2 h3 _ => h v' w' h2 h3)
    obtain ⟨b, off, ha, _, hc⟩ := hr j u hj
    cases ha
    have e1 : (⟨b, off, none⟩ : Addr).add j = ⟨b, off + j, none⟩ := by unfold Addr.add; split <;> simp_all
    rw [e1]
    exact hc
end

/-- The empty slice that a literal makes. -/
theorem own_lit0 (w : World) (e : TypeId) (size : Nat) : (w.alloc (.cells #[] e)).ownsRow w.heap.size e size (.slice (some ⟨w.heap.size, 0, none⟩) 0 0) 0 [] :=
  World.ownsRow_lit w #[] 0 (Nat.le_refl _) (by unfold maxLen; omega) (by simp)

set_option maxRecDepth 100000 in
set_option maxHeartbeats 1000000 in
theorem joined_any (A B : Option Addr) (c d : Nat) (xs ys : List Int) (w : World) (hX : Ints w A xs) (hY : Ints w B ys) (hl : xs.length + ys.length ≤ 1000) :
    Calls Try.prog 48 #[.slice A xs.length c, .slice B ys.length d] w (RowPost (xs ++ ys) w) := by
  obtain ⟨j0, hj, jz0, jz1, jz2⟩ := info_parts info3
  have hown := own_lit0 w 3 1
  have hb := below_one (w := w) (.cells #[] 3)
  have hX' := (hX.below hb (Nat.le_refl _)).cls
  have hY' := hY.below hb (Nat.le_refl _)
  go_enter Try.func48, Try.ntmps48
  go_wp2_with (first
    | (at_builtin; refine wpList_app rfl (.tmp 5) (.tmp 6) 22 rfl w.heap.size 3 j0 (.int .i64 0) 1 8 under22 hj jz0 jz1 jz2 rfl (by decide) _ 0 [] rfl hown A xs.length c _ rfl (by simp) hX' (ints_one xs) (by unfold maxLen; omega) (by omega) (by simp) ?_
       intro v1 w1 hown1 hg1
       have hge := own_ge hown
       have hb' : Below w.heap.size w w1 := hb.grown hg1 hb.size hge
       have hY1 := (hY.below hb' (Nat.le_refl _)).cls
       clear hown hX' hY')
    | (at_builtin; refine wpList_app rfl (.tmp 7) (.tmp 8) 22 rfl w.heap.size 3 j0 (.int .i64 0) 1 8 under22 hj jz0 jz1 jz2 rfl (by decide) v1 _ _ rfl hown1 B ys.length d _ rfl (by simp) hY1 (ints_one ys) (by unfold maxLen; omega) (by omega) hb'.size ?_
       intro v2 w2 hown2 hg2
       have hge1 := own_ge hown1
       have hb2 : Below w.heap.size w w2 := hb'.grown hg2 hb'.size hge1))
  have hown3 : w2.ownsRow w.heap.size 3 1 v2 (xs ++ ys).length ((xs ++ ys).map (Value.int .i64)) := by simpa using hown2
  obtain ⟨a, ca, rfl, hi⟩ := Ints.of_own hown3 (by simp; omega) (fun x hx => by
    rcases List.mem_append.1 hx with h | h
    · exact hX.2.1 x h
    · exact hY.2.1 x h)
  go_ret
  exact ⟨hb2, a, ca, rfl, hi, own_new hown3⟩
end Go.Proofs.Ytmkmnedojgigoaa
namespace Go.Proofs.Ytmkmnedojgigoaa
open Go.RowKit

def kindsB (C : List Int) (lo : Int) (xs : List Int) : Bool := xs.all (fun x => inR lo x (C.length - 1)) && decide ((xs.length : Int) ≤ 20)

set_option maxRecDepth 100000 in
set_option maxHeartbeats 1000000 in
theorem areKinds_any (r : Int) (an ac : Option Addr) (cn cc : Nat) (N C : List Int) (a : Option Addr) (ca : Nat) (xs : List Int) (lo : Int) (w : World) (hC : Ints w ac C) (hX : Ints w a xs) :
    Calls Try.prog 45 #[.agg #[.int .i64 r, .slice an N.length cn, .slice ac C.length cc], .slice a xs.length ca, .int .i64 lo] w fun e w' => e = .returned (.bool (kindsB C lo xs)) ∧ Below w.heap.size w w' := by
  have hm := hX.len
  have hcl := hC.len
  clear hC
  obtain ⟨W, hW, hb, hs, x0⟩ := boxes1 w #[.int .i64 r, .slice an N.length cn, .slice ac C.length cc] 24
  clear hs
  replace hX := hX.below hb (Nat.le_refl _)
  have c0 := x0.cell 0 rfl; have c1 := x0.cell 1 rfl; have c2 := x0.cell 2 rfl
  go_enter Try.func45, Try.ntmps45
  go_wp2
  clear hW c0 c1 c2
  go_loopw [7] (fun i wr => ∃ (k : Nat), k ≤ xs.length ∧ i = .int .i64 k ∧ Qd W wr ∧ xs.all (fun x => inR lo x (C.length - 1)) = (xs.drop k).all (fun x => inR lo x (C.length - 1))) (fun i _ => xs.length - (intOf i).toNat)
  case atStart => exact ⟨0, Nat.zero_le _, rfl, Qd.refl _, rfl⟩
  case round =>
    obtain ⟨k, hk, rfl, hq, hn⟩ := hrel
    have Hn := hid hn; clear hn
    replace hX := hX.qd hq
    have x1 := x0.below (hq.below _)
    have c0 := x1.cell 0 rfl; have c1 := x1.cell 1 rfl; have c2 := x1.cell 2 rfl
    by_cases hlt : k < xs.length
    · obtain ⟨b, off, x, rfl, hbs, hc, _, _, hx, hd⟩ := hX.at hlt
      have hkI : (k : Int) < (xs.length : Int) := by omega
      have hk0 : (0 : Int) ≤ (k : Int) := by omega
      cases he : inR lo x (C.length - 1)
      · go_wp2
        go_quiet ((go_at_call 58; exact quiet_eq (within_any _ _ _ _)))
        go_wp2
        go_ret
        exact ⟨ret_bool (by rw [kindsB, Hn.out, hd.out]; simp only [List.all_cons, he, Bool.false_and]), hb.trans ((hq.drewN _).below _ |>.mono hb.size)⟩
      · go_wp2
        go_quiet ((go_at_call 58; exact quiet_eq (within_any _ _ _ _)))
        go_wp2
        go_roundw
        case rel => exact ⟨k + 1, by omega, by go_num, hq.drewN _, by rw [Hn.out, hd.out]; simp only [List.all_cons, he, Bool.true_and]⟩
        case measure => simp [intOf]; omega
    · go_wp2
      go_ret
      exact ⟨ret_bool (by rw [kindsB, Hn.out, drop_end hk hlt]; rfl), hb.trans (hq.below _ |>.mono hb.size)⟩
end Go.Proofs.Ytmkmnedojgigoaa
namespace Go.Proofs.Ytmkmnedojgigoaa
open Go.RowKit

theorem ints_nil (w : World) : Ints w none [] := ⟨by simp, by simp, fun i hi => by simp at hi⟩
theorem joined1_any (A : Option Addr) (c : Nat) (xs : List Int) (w : World) (hX : Ints w A xs) (hl : xs.length ≤ 1000) :
    Calls Try.prog 48 #[.slice A xs.length c, .slice none 0 0] w (RowPost xs w) := by
  have := joined_any A none c 0 xs [] w hX (ints_nil w) (by simpa using hl)
  rw [List.append_nil] at this
  exact this

theorem kinds_of {C xs : List Int} (h : kindsB C 0 xs = true) : xs.all (isKindB C) = true ∧ xs.length ≤ 20 := by
  simp only [kindsB, Bool.and_eq_true, decide_eq_true_eq] at h
  exact ⟨h.1, by omega⟩
theorem kinds_app {C xs ys : List Int} (h : kindsB C 0 xs = true) (h' : kindsB C 0 ys = true) (hl : xs.length ≤ 10) (hl' : ys.length ≤ 10) : kindsB C 0 (xs ++ ys) = true := by
  simp only [kindsB, Bool.and_eq_true, decide_eq_true_eq] at *
  refine ⟨by rw [List.all_append, h.1, h'.1]; rfl, by simp; omega⟩
theorem tot_app (C xs ys : List Int) : tot C (xs ++ ys) = tot C xs + tot C ys := by simp [tot]

theorem plays_kinds (R : Nat) (an ac : Option Addr) (cn cc : Nat) (N C : List Int) (p : Nat) (a : Option Addr) (ca : Nat) (xs : List Int) (w : World) (hN : Ints w an N) (hC : Ints w ac C) (hX : Ints w a xs) (hv : Vw R N C) (hp : p < R) (hk : kindsB C 0 xs = true) :
    Calls Try.prog 23 #[.agg #[.int .i64 (R : Int), .slice an N.length cn, .slice ac C.length cc], .int .i64 p, .slice a xs.length ca] w fun e w' => e = .returned (.tuple #[.int .i64 (gv R N p (tot C xs) : Nat), .int .i64 0]) ∧ Below w.heap.size w w' := by
  have h := plays_good R an ac cn cc N C p a ca xs w hN hC hX hv
  have hok : okPlays R C p xs = true := by
    obtain ⟨h1, h2⟩ := kinds_of hk
    simp only [okPlays, Bool.and_eq_true, decide_eq_true_eq]
    exact ⟨inR_iff.2 (by omega), h2, h1⟩
  rw [plV, plE, if_pos hok, if_pos hok, Int.toNat_natCast] at h
  exact h
theorem run_kinds0 (R : Nat) (an ac : Option Addr) (cn cc : Nat) (N C : List Int) (a : Option Addr) (ca : Nat) (xs : List Int) (w : World) (hN : Ints w an N) (hC : Ints w ac C) (hX : Ints w a xs) (hv : Vw R N C) (hk : kindsB C 0 xs = true) :
    Calls Try.prog 21 #[.agg #[.int .i64 (R : Int), .slice an N.length cn, .slice ac C.length cc], .agg #[.int .i64 0, .int .i64 0], .slice a xs.length ca] w fun e w' => e = .returned (.tuple #[.agg #[.int .i64 (tot C xs % R : Nat), .int .i64 (gv R N 0 (tot C xs) : Nat)], .int .i64 0, .int .i64 0]) ∧ Below w.heap.size w w' := by
  have r1 := hv.r1
  have hok : okRun R C (0 : Nat) (0 : Nat) xs = true := by
    obtain ⟨h1, h2⟩ := kinds_of hk
    simp only [okRun, Bool.and_eq_true, decide_eq_true_eq]
    refine ⟨⟨inR_iff.2 (by omega), inR_iff.2 (by omega)⟩, h2, List.all_eq_true.2 fun x hx => ?_⟩
    simp only [isActB, Bool.or_eq_true]
    exact .inr (List.all_eq_true.1 h1 x hx)
  have h := run_good R an ac cn cc N C 0 0 a ca xs w hN hC hX hv hok
  have hr := run_kinds hv xs 0 0 0 (kinds_of hk).1
  rw [Nat.zero_mod, Nat.zero_add, Nat.zero_add] at hr
  rw [hr] at h
  exact h

set_option maxRecDepth 100000 in
set_option maxHeartbeats 1000000 in
theorem sum_ok (R : Nat) (an ac : Option Addr) (cn cc : Nat) (N C : List Int) (a b : Option Addr) (ca cb : Nat) (xs ys : List Int) (w : World) (hN : Ints w an N) (hC : Ints w ac C) (hX : Ints w a xs) (hY : Ints w b ys) (hw : isWhl (R : Int) N C = true) (hv : Vw R N C)
    (hl : xs.length ≤ 10) (hl' : ys.length ≤ 10) (hk : kindsB C 0 xs = true) (hk' : kindsB C 0 ys = true) :
    Calls Try.prog 8 #[.agg #[.int .i64 (R : Int), .slice an N.length cn, .slice ac C.length cc], .slice a xs.length ca, .slice b ys.length cb] w (WorksP w) := by
  have hN0 := hN; have hC0 := hC; have hX0 := hX; have hY0 := hY
  obtain ⟨W, hW, hb, hs, x0⟩ := boxes1 w #[.int .i64 (R : Int), .slice an N.length cn, .slice ac C.length cc] 24
  clear hs
  replace hN := hN.below hb (Nat.le_refl _); replace hC := hC.below hb (Nat.le_refl _); replace hX := hX.below hb (Nat.le_refl _); replace hY := hY.below hb (Nat.le_refl _)
  have c0 := x0.cell 0 rfl; have c1 := x0.cell 1 rfl; have c2 := x0.cell 2 rfl
  have d1 : decide ((10 : Int) < (xs.length : Int)) = false := by simp; omega
  have d2 : decide ((10 : Int) < (ys.length : Int)) = false := by simp; omega
  go_enter Try.func8, Try.ntmps8
  go_wp2_with fail
  refine (isWheel_any _ _ _ _ _ _ _ _ hN hC).mono ?_
  rintro e W1 ⟨rfl, hb1⟩
  rw [hw]
  clear hW
  replace hN := hN.below hb1 (Nat.le_refl _); replace hC := hC.below hb1 (Nat.le_refl _); replace hX := hX.below hb1 (Nat.le_refl _); replace hY := hY.below hb1 (Nat.le_refl _); (try clear c0 c1 c2); replace x0 := x0.below hb1; have c0 := x0.cell 0 rfl; have c1 := x0.cell 1 rfl; have c2 := x0.cell 2 rfl; replace hb := hb.trans (hb1.mono hb.size); clear hb1
  go_wp2_with fail
  refine (areKinds_any _ _ _ _ _ _ _ a ca xs 0 _ hC hX).mono ?_
  rintro e W2 ⟨rfl, hb1⟩
  rw [hk]
  replace hN := hN.below hb1 (Nat.le_refl _); replace hC := hC.below hb1 (Nat.le_refl _); replace hX := hX.below hb1 (Nat.le_refl _); replace hY := hY.below hb1 (Nat.le_refl _); (try clear c0 c1 c2); replace x0 := x0.below hb1; have c0 := x0.cell 0 rfl; have c1 := x0.cell 1 rfl; have c2 := x0.cell 2 rfl; replace hb := hb.trans (hb1.mono hb.size); clear hb1
  go_wp2_with fail
  refine (areKinds_any _ _ _ _ _ _ _ b cb ys 0 _ hC hY).mono ?_
  rintro e W3 ⟨rfl, hb1⟩
  rw [hk']
  replace hN := hN.below hb1 (Nat.le_refl _); replace hC := hC.below hb1 (Nat.le_refl _); replace hX := hX.below hb1 (Nat.le_refl _); replace hY := hY.below hb1 (Nat.le_refl _); (try clear c0 c1 c2); replace x0 := x0.below hb1; have c0 := x0.cell 0 rfl; have c1 := x0.cell 1 rfl; have c2 := x0.cell 2 rfl; replace hb := hb.trans (hb1.mono hb.size); clear hb1
  go_wp2_with fail
  clear c0 c1 c2 d1 d2
  have xD := x0.drew
  have hND : Ints W3.drew an N := hN.drew
  have hCD : Ints W3.drew ac C := hC.drew
  have hXD : Ints W3.drew a xs := hX.drew
  have hYD : Ints W3.drew b ys := hY.drew
  replace hb := hb.drew
  clear x0 hN hC hX hY
  obtain ⟨p1, hp1⟩ : ∃ p, p = tot C xs % R := ⟨_, rfl⟩
  obtain ⟨G1, hG1⟩ : ∃ G, G = gv R N 0 (tot C xs) := ⟨_, rfl⟩
  obtain ⟨G2, hG2⟩ : ∃ G, G = gv R N p1 (tot C ys) := ⟨_, rfl⟩
  have pl1 : ∀ (a' : Option Addr) (ca' : Nat) (W : World), Ints W an N → Ints W ac C → Ints W a' xs → Calls Try.prog 23 #[.agg #[.int .i64 (R : Int), .slice an N.length cn, .slice ac C.length cc], .int .i64 0, .slice a' xs.length ca'] W fun e w' => e = .returned (.tuple #[.int .i64 G1, .int .i64 0]) ∧ Below W.heap.size W w' := fun a' ca' W h1 h2 h3 => by
    have := plays_kinds R an ac cn cc N C 0 a' ca' xs W h1 h2 h3 hv (by have := hv.r1; omega) hk
    rw [← hG1] at this
    exact this
  have ru1 : ∀ (a' : Option Addr) (ca' : Nat) (W : World), Ints W an N → Ints W ac C → Ints W a' xs → Calls Try.prog 21 #[.agg #[.int .i64 (R : Int), .slice an N.length cn, .slice ac C.length cc], .agg #[.int .i64 0, .int .i64 0], .slice a' xs.length ca'] W fun e w' => e = .returned (.tuple #[.agg #[.int .i64 p1, .int .i64 G1], .int .i64 0, .int .i64 0]) ∧ Below W.heap.size W w' := fun a' ca' W h1 h2 h3 => by
    have := run_kinds0 R an ac cn cc N C a' ca' xs W h1 h2 h3 hv hk
    rw [← hG1, ← hp1] at this
    exact this
  have pl2 : ∀ (a' : Option Addr) (ca' : Nat) (W : World), Ints W an N → Ints W ac C → Ints W a' ys → Calls Try.prog 23 #[.agg #[.int .i64 (R : Int), .slice an N.length cn, .slice ac C.length cc], .int .i64 p1, .slice a' ys.length ca'] W fun e w' => e = .returned (.tuple #[.int .i64 G2, .int .i64 0]) ∧ Below W.heap.size W w' := fun a' ca' W h1 h2 h3 => by
    have := plays_kinds R an ac cn cc N C p1 a' ca' ys W h1 h2 h3 hv (by rw [hp1]; exact Nat.mod_lt _ hv.r1) hk'
    rw [← hG2] at this
    exact this
  have hsum : gv R N 0 (tot C xs + tot C ys) = G1 + G2 := by
    rw [gv_sum hv, Nat.zero_add, ← hG1, hG2, hp1, fs_per hv.r1]
  have pl3 : ∀ (a' : Option Addr) (ca' : Nat) (W : World), Ints W an N → Ints W ac C → Ints W a' (xs ++ ys) → Calls Try.prog 23 #[.agg #[.int .i64 (R : Int), .slice an N.length cn, .slice ac C.length cc], .int .i64 0, .slice a' (xs ++ ys).length ca'] W fun e w' => e = .returned (.tuple #[.int .i64 ((G1 : Int) + (G2 : Int)), .int .i64 0]) ∧ Below W.heap.size W w' := fun a' ca' W h1 h2 h3 => by
    have := plays_kinds R an ac cn cc N C 0 a' ca' (xs ++ ys) W h1 h2 h3 hv (by have := hv.r1; omega) (kinds_app hk hk' hl hl')
    rw [tot_app, hsum, Int.natCast_add] at this
    exact this
  have pl4 : ∀ (a' : Option Addr) (ca' : Nat) (W : World), Ints W an N → Ints W ac C → Ints W a' (ys ++ xs) → Calls Try.prog 23 #[.agg #[.int .i64 (R : Int), .slice an N.length cn, .slice ac C.length cc], .int .i64 0, .slice a' (ys ++ xs).length ca'] W fun e w' => e = .returned (.tuple #[.int .i64 ((G1 : Int) + (G2 : Int)), .int .i64 0]) ∧ Below W.heap.size W w' := fun a' ca' W h1 h2 h3 => by
    have := plays_kinds R an ac cn cc N C 0 a' ca' (ys ++ xs) W h1 h2 h3 hv (by have := hv.r1; omega) (kinds_app hk' hk hl' hl)
    rw [tot_app, Nat.add_comm (tot C ys), hsum, Int.natCast_add] at this
    exact this
  have hb1 : G1 ≤ 26000 := by
    have h1 := gv_le hv 0 (tot C xs); have h2 := tot_le hv xs (kinds_of hk).1
    rw [hG1]; omega
  have hb2 : G2 ≤ 26000 := by
    have h1 := gv_le hv p1 (tot C ys); have h2 := tot_le hv ys (kinds_of hk').1
    have h3 : p1 < R := by rw [hp1]; exact Nat.mod_lt _ hv.r1
    have h4 := hv.r2
    rw [hG2]; omega
  have l1 : xs.length ≤ 1000 := by omega
  have l2 : ys.length ≤ 1000 := by omega
  have jn1 : ∀ W : World, Ints W a xs → Ints W b ys → Calls Try.prog 48 #[.slice a xs.length ca, .slice b ys.length cb] W (RowPost (xs ++ ys) W) := fun W h1 h2 => joined_any a b ca cb xs ys W h1 h2 (by omega)
  have jn2 : ∀ W : World, Ints W a xs → Ints W b ys → Calls Try.prog 48 #[.slice b ys.length cb, .slice a xs.length ca] W (RowPost (ys ++ xs) W) := fun W h1 h2 => joined_any b a cb ca ys xs W h2 h1 (by omega)
  generalize xs ++ ys = zs at pl3 jn1
  generalize ys ++ xs = us at pl4 jn2
  clear hp1 hG1 hG2 hsum hw hv hk hk'
  have q1 : decide ((G1 : Int) < 0) = false := by simp
  have q2 : decide ((G2 : Int) < 0) = false := by simp
  have q3 : decide ((1048576 : Int) < (G1 : Int)) = false := by simp; omega
  have q4 : decide ((1048576 : Int) < (G2 : Int)) = false := by simp; omega
  refine wp_region_head 8 (fun w' => Bx w' w.heap.size #[.int .i64 (R : Int), .slice an N.length cn, .slice ac C.length cc] 24) (by kernel_rfl) rfl ?_
  refine HeadAt.take (i := 0) (.agg #[.int .i64 (R : Int), .slice an N.length cn, .slice ac C.length cc]) rfl (by kernel_rfl) (.inl ⟨rfl, fun w' z => ?_⟩) xD ?_
  · (have z0 := z.cell 0 rfl; have z1 := z.cell 1 rfl; have z2 := z.cell 2 rfl; simp [go_sem, z0, z1, z2])
  refine HeadAt.take (i := 1) (.slice a xs.length ca) rfl (by kernel_rfl) (.inl ⟨rfl, fun _ _ => by simp [go_sem]⟩) xD ?_
  refine HeadAt.one (i := 2) rfl (by kernel_rfl) ?_
  generalize hK : Upto _ _ = K0
  (try simp only [Act.put, List.getElem_toArray, List.getElem_cons_succ, List.getElem_cons_zero, List.setIfInBounds_toArray, List.set_cons_succ, List.set_cons_zero])
  go_wp2_with fail
  refine (joined1_any _ _ xs _ hXD l1).mono ?_
  rintro e W4 ⟨hb1, a', ca', rfl, hi, -⟩
  replace hND := hND.below hb1 (Nat.le_refl _); replace hCD := hCD.below hb1 (Nat.le_refl _); replace hXD := hXD.below hb1 (Nat.le_refl _); replace hYD := hYD.below hb1 (Nat.le_refl _); replace xD := xD.below hb1; replace hb := hb.trans (hb1.mono hb.size); clear hb1
  go_wp2_with fail
  subst hK
  refine ⟨xD, ?_⟩
  refine HeadAt.one (i := 3) rfl (by kernel_rfl) ?_
  generalize hK : Upto _ _ = K0
  (try simp only [List.getElem_toArray, List.getElem_cons_succ, List.getElem_cons_zero])
  go_wp2_with fail
  refine (pl1 _ _ _ hND hCD hi).mono ?_
  rintro e W5 ⟨rfl, hb1⟩
  replace hND := hND.below hb1 (Nat.le_refl _); replace hCD := hCD.below hb1 (Nat.le_refl _); replace hXD := hXD.below hb1 (Nat.le_refl _); replace hYD := hYD.below hb1 (Nat.le_refl _); replace xD := xD.below hb1; replace hb := hb.trans (hb1.mono hb.size); clear hb1
  clear hi
  go_wp2_with fail
  subst hK
  refine ⟨xD, ?_⟩
  refine HeadAt.take (i := 4) (.tuple #[.int .i64 G1, .int .i64 0]) rfl (by kernel_rfl) (.inl ⟨rfl, fun _ _ => by simp [go_sem]⟩) xD ?_
  refine HeadAt.take (i := 5) (.int .i64 G1) rfl (by kernel_rfl) (.inl ⟨rfl, fun _ _ => by simp [go_sem]⟩) xD ?_
  refine HeadAt.take (i := 6) (.int .i64 0) rfl (by kernel_rfl) (.inl ⟨rfl, fun _ _ => by simp [go_sem]⟩) xD ?_
  refine HeadAt.take (i := 7) (.int .i64 G1) rfl (by kernel_rfl) (.inl ⟨rfl, fun _ _ => by simp [go_sem]⟩) xD ?_
  refine HeadAt.done (by kernel_rfl) ?_
  (try simp only [Act.put, List.drop_succ_cons, List.drop_zero, List.getElem_toArray, List.getElem_cons_succ, List.getElem_cons_zero])
  go_wp2_with fail
  refine NoPanic.normal ?_
  go_wp2_with fail
  have xD2 := xD.drew
  have hb' := hb.drew
  go_cut [9, 10, 11] (fun s9 s10 s11 wx => ∃ g : Nat, s9 = .pointer (some ⟨g, 0, none⟩) ∧ s10 = .int .i64 0 ∧ s11 = .int .i64 0 ∧ w.heap.size + 1 ≤ g ∧ Bx wx g #[.int .i64 p1, .int .i64 G1] 26 ∧ Bx wx w.heap.size #[.int .i64 (R : Int), .slice an N.length cn, .slice ac C.length cc] 24 ∧ Below w.heap.size w wx)
  case first =>
    clear xD hb
    replace hND := hND.drew; replace hCD := hCD.drew; replace hXD := hXD.drew; replace hYD := hYD.drew
    have xD := xD2; have hb := hb'
    clear xD2 hb'
    refine wp_region_head 12 (fun w' => Bx w' w.heap.size #[.int .i64 (R : Int), .slice an N.length cn, .slice ac C.length cc] 24) (by kernel_rfl) rfl ?_
    generalize W5.drew = W6 at *
    refine HeadAt.take (i := 0) (.agg #[.int .i64 (R : Int), .slice an N.length cn, .slice ac C.length cc]) rfl (by kernel_rfl) (.inl ⟨rfl, fun w' z => ?_⟩) xD ?_
    · (have z0 := z.cell 0 rfl; have z1 := z.cell 1 rfl; have z2 := z.cell 2 rfl; simp [go_sem, z0, z1, z2])
    refine HeadAt.take (i := 1) (.agg #[.int .i64 0, .int .i64 0]) rfl (by kernel_rfl) (.inl ⟨rfl, fun _ _ => by simp [go_sem]⟩) xD ?_
    refine HeadAt.take (i := 2) (.slice a xs.length ca) rfl (by kernel_rfl) (.inl ⟨rfl, fun _ _ => by simp [go_sem]⟩) xD ?_
    refine HeadAt.two (i := 3) (j := 9) rfl rfl (by kernel_rfl) ?_ ?_
    · skip
      generalize hK : Upto _ _ = K0
      (try simp only [Act.put, List.getElem_toArray, List.getElem_cons_succ, List.getElem_cons_zero, List.setIfInBounds_toArray, List.set_cons_succ, List.set_cons_zero])
      go_wp2_with fail
      refine (joined1_any _ _ xs _ hXD l1).mono ?_
      rintro e W7 ⟨hb1, a', ca', rfl, hi, -⟩
      replace hND := hND.below hb1 (Nat.le_refl _); replace hCD := hCD.below hb1 (Nat.le_refl _); replace hXD := hXD.below hb1 (Nat.le_refl _); replace hYD := hYD.below hb1 (Nat.le_refl _); replace xD := xD.below hb1; replace hb := hb.trans (hb1.mono hb.size); clear hb1
      go_wp2_with fail
      subst hK
      refine ⟨xD, ?_⟩
      refine HeadAt.two (i := 4) (j := 9) rfl rfl (by kernel_rfl) ?_ ?_
      · skip
        generalize hK : Upto _ _ = K0
        (try simp only [List.getElem_toArray, List.getElem_cons_succ, List.getElem_cons_zero])
        go_wp2_with fail
        refine (ru1 _ _ _ hND hCD hi).mono ?_
        rintro e W8 ⟨rfl, hb1⟩
        replace hND := hND.below hb1 (Nat.le_refl _); replace hCD := hCD.below hb1 (Nat.le_refl _); replace hXD := hXD.below hb1 (Nat.le_refl _); replace hYD := hYD.below hb1 (Nat.le_refl _); replace xD := xD.below hb1; replace hb := hb.trans (hb1.mono hb.size); clear hb1
        clear hi
        go_wp2_with fail
        subst hK
        refine ⟨xD, ?_⟩
        refine HeadAt.take (i := 5) (.tuple #[.agg #[.int .i64 p1, .int .i64 G1], .int .i64 0, .int .i64 0]) rfl (by kernel_rfl) (.inl ⟨rfl, fun _ _ => by simp [go_sem]⟩) xD ?_
        refine HeadAt.take (i := 6) (.agg #[.int .i64 p1, .int .i64 G1]) rfl (by kernel_rfl) (.inl ⟨rfl, fun _ _ => by simp [go_sem]⟩) xD ?_
        refine HeadAt.take (i := 7) (.int .i64 0) rfl (by kernel_rfl) (.inl ⟨rfl, fun _ _ => by simp [go_sem]⟩) xD ?_
        refine HeadAt.take (i := 8) (.int .i64 0) rfl (by kernel_rfl) (.inl ⟨rfl, fun _ _ => by simp [go_sem]⟩) xD ?_
        refine HeadAt.one (i := 9) rfl (by kernel_rfl) ?_
        generalize hK : Upto _ _ = K0
        (try simp only [Act.put, List.getElem_toArray, List.getElem_cons_succ, List.getElem_cons_zero, List.setIfInBounds_toArray, List.set_cons_succ, List.set_cons_zero])
        have lz := hb.size
        have lx := xD.lt
        have hb1 := below_one (w := W8) (.cells #[.int .i64 0, .int .i64 0] 26)
        have xg := Bx.new W8 #[.int .i64 0, .int .i64 0] 26
        have hge : w.heap.size + 1 ≤ W8.heap.size := by omega
        go_wp2_with fail
        replace hND := hND.below hb1 (Nat.le_refl _); replace hCD := hCD.below hb1 (Nat.le_refl _); replace hXD := hXD.below hb1 (Nat.le_refl _); replace hYD := hYD.below hb1 (Nat.le_refl _); replace xD := xD.below hb1; replace hb := hb.trans (hb1.mono hb.size); clear hb1
        generalize W8.alloc (.cells #[.int .i64 0, .int .i64 0] 26) = W9 at *
        generalize W8.heap.size = g at *
        clear lz lx
        subst hK
        refine ⟨xD, ?_⟩
        refine HeadAt.one (i := 10) rfl (by kernel_rfl) ?_
        generalize hK : Upto _ _ = K0
        (try simp only [List.getElem_toArray, List.getElem_cons_succ, List.getElem_cons_zero])
        have g0 := xg.cell 0 rfl; have g1 := xg.cell 1 rfl
        have f0 := xg.free 0; have f1 := xg.free 1
        go_wp2_with fail
        replace xg := xg.set2 (.int .i64 p1) (.int .i64 G1)
        replace hb := Below.store (Below.store hb (p := ⟨g, 0, none⟩) (by show w.heap.size ≤ g; omega) (.int .i64 p1)) (p := ⟨g, 1, none⟩) (by show w.heap.size ≤ g; omega) (.int .i64 G1)
        replace xD := (xD.other (a := ⟨g, 0, none⟩) (by show w.heap.size ≠ g; omega) (.int .i64 p1)).other (a := ⟨g, 1, none⟩) (by show w.heap.size ≠ g; omega) (.int .i64 G1)
        clear g0 g1 f0 f1
        subst hK
        refine ⟨xD, ?_⟩
        refine HeadAt.take (i := 11) (.int .i64 0) rfl (by kernel_rfl) (.inl ⟨rfl, fun _ _ => by simp [go_sem]⟩) xD ?_
        refine HeadAt.done (by kernel_rfl) ?_
        (try simp only [Act.put, List.drop_succ_cons, List.drop_zero, List.getElem_toArray, List.getElem_cons_succ, List.getElem_cons_zero])
        go_wp2_with fail
        refine NoPanic.normal ?_
        go_wp2_with fail
        go_meet
        exact ⟨g, rfl, rfl, rfl, hge, xg, xD, hb⟩
      · skip
        generalize hK : Upto _ _ = K0
        (try simp only [List.getElem_toArray, List.getElem_cons_succ, List.getElem_cons_zero])
        have lz := hb.size
        have lx := xD.lt
        have hb1 := below_one (w := W7) (.cells #[.int .i64 0, .int .i64 0] 26)
        have xg := Bx.new W7 #[.int .i64 0, .int .i64 0] 26
        have hge : w.heap.size + 1 ≤ W7.heap.size := by omega
        go_wp2_with fail
        replace hND := hND.below hb1 (Nat.le_refl _); replace hCD := hCD.below hb1 (Nat.le_refl _); replace hXD := hXD.below hb1 (Nat.le_refl _); replace hYD := hYD.below hb1 (Nat.le_refl _); replace hi := hi.below hb1 (Nat.le_refl _); replace xD := xD.below hb1; replace hb := hb.trans (hb1.mono hb.size); clear hb1
        generalize W7.alloc (.cells #[.int .i64 0, .int .i64 0] 26) = W9 at *
        generalize W7.heap.size = g at *
        clear lz lx
        subst hK
        refine ⟨xD, ?_⟩
        refine HeadAt.one (i := 4) rfl (by kernel_rfl) ?_
        generalize hK : Upto _ _ = K0
        (try simp only [List.getElem_toArray, List.getElem_cons_succ, List.getElem_cons_zero])
        go_wp2_with fail
        refine (ru1 _ _ _ hND hCD hi).mono ?_
        rintro e W8 ⟨rfl, hb1⟩
        replace hND := hND.below hb1 (Nat.le_refl _); replace hCD := hCD.below hb1 (Nat.le_refl _); replace hXD := hXD.below hb1 (Nat.le_refl _); replace hYD := hYD.below hb1 (Nat.le_refl _); replace xD := xD.below hb1; replace xg := xg.below hb1; replace hb := hb.trans (hb1.mono hb.size); clear hb1
        clear hi
        go_wp2_with fail
        subst hK
        refine ⟨xD, ?_⟩
        refine HeadAt.take (i := 5) (.tuple #[.agg #[.int .i64 p1, .int .i64 G1], .int .i64 0, .int .i64 0]) rfl (by kernel_rfl) (.inl ⟨rfl, fun _ _ => by simp [go_sem]⟩) xD ?_
        refine HeadAt.take (i := 6) (.agg #[.int .i64 p1, .int .i64 G1]) rfl (by kernel_rfl) (.inl ⟨rfl, fun _ _ => by simp [go_sem]⟩) xD ?_
        refine HeadAt.take (i := 7) (.int .i64 0) rfl (by kernel_rfl) (.inl ⟨rfl, fun _ _ => by simp [go_sem]⟩) xD ?_
        refine HeadAt.take (i := 8) (.int .i64 0) rfl (by kernel_rfl) (.inl ⟨rfl, fun _ _ => by simp [go_sem]⟩) xD ?_
        refine HeadAt.one (i := 10) rfl (by kernel_rfl) ?_
        generalize hK : Upto _ _ = K0
        (try simp only [Act.put, List.getElem_toArray, List.getElem_cons_succ, List.getElem_cons_zero, List.setIfInBounds_toArray, List.set_cons_succ, List.set_cons_zero])
        have g0 := xg.cell 0 rfl; have g1 := xg.cell 1 rfl
        have f0 := xg.free 0; have f1 := xg.free 1
        go_wp2_with fail
        replace xg := xg.set2 (.int .i64 p1) (.int .i64 G1)
        replace hb := Below.store (Below.store hb (p := ⟨g, 0, none⟩) (by show w.heap.size ≤ g; omega) (.int .i64 p1)) (p := ⟨g, 1, none⟩) (by show w.heap.size ≤ g; omega) (.int .i64 G1)
        replace xD := (xD.other (a := ⟨g, 0, none⟩) (by show w.heap.size ≠ g; omega) (.int .i64 p1)).other (a := ⟨g, 1, none⟩) (by show w.heap.size ≠ g; omega) (.int .i64 G1)
        clear g0 g1 f0 f1
        subst hK
        refine ⟨xD, ?_⟩
        refine HeadAt.take (i := 11) (.int .i64 0) rfl (by kernel_rfl) (.inl ⟨rfl, fun _ _ => by simp [go_sem]⟩) xD ?_
        refine HeadAt.done (by kernel_rfl) ?_
        (try simp only [Act.put, List.drop_succ_cons, List.drop_zero, List.getElem_toArray, List.getElem_cons_succ, List.getElem_cons_zero])
        go_wp2_with fail
        refine NoPanic.normal ?_
        go_wp2_with fail
        go_meet
        exact ⟨g, rfl, rfl, rfl, hge, xg, xD, hb⟩
    · skip
      generalize hK : Upto _ _ = K0
      (try simp only [Act.put, List.getElem_toArray, List.getElem_cons_succ, List.getElem_cons_zero, List.setIfInBounds_toArray, List.set_cons_succ, List.set_cons_zero])
      have lz := hb.size
      have lx := xD.lt
      have hb1 := below_one (w := W6) (.cells #[.int .i64 0, .int .i64 0] 26)
      have xg := Bx.new W6 #[.int .i64 0, .int .i64 0] 26
      have hge : w.heap.size + 1 ≤ W6.heap.size := by omega
      go_wp2_with fail
      replace hND := hND.below hb1 (Nat.le_refl _); replace hCD := hCD.below hb1 (Nat.le_refl _); replace hXD := hXD.below hb1 (Nat.le_refl _); replace hYD := hYD.below hb1 (Nat.le_refl _); replace xD := xD.below hb1; replace hb := hb.trans (hb1.mono hb.size); clear hb1
      generalize W6.alloc (.cells #[.int .i64 0, .int .i64 0] 26) = W9 at *
      generalize W6.heap.size = g at *
      clear lz lx
      subst hK
      refine ⟨xD, ?_⟩
      refine HeadAt.one (i := 3) rfl (by kernel_rfl) ?_
      generalize hK : Upto _ _ = K0
      (try simp only [List.getElem_toArray, List.getElem_cons_succ, List.getElem_cons_zero])
      go_wp2_with fail
      refine (joined1_any _ _ xs _ hXD l1).mono ?_
      rintro e W7 ⟨hb1, a', ca', rfl, hi, -⟩
      replace hND := hND.below hb1 (Nat.le_refl _); replace hCD := hCD.below hb1 (Nat.le_refl _); replace hXD := hXD.below hb1 (Nat.le_refl _); replace hYD := hYD.below hb1 (Nat.le_refl _); replace xD := xD.below hb1; replace xg := xg.below hb1; replace hb := hb.trans (hb1.mono hb.size); clear hb1
      go_wp2_with fail
      subst hK
      refine ⟨xD, ?_⟩
      refine HeadAt.one (i := 4) rfl (by kernel_rfl) ?_
      generalize hK : Upto _ _ = K0
      (try simp only [List.getElem_toArray, List.getElem_cons_succ, List.getElem_cons_zero])
      go_wp2_with fail
      refine (ru1 _ _ _ hND hCD hi).mono ?_
      rintro e W8 ⟨rfl, hb1⟩
      replace hND := hND.below hb1 (Nat.le_refl _); replace hCD := hCD.below hb1 (Nat.le_refl _); replace hXD := hXD.below hb1 (Nat.le_refl _); replace hYD := hYD.below hb1 (Nat.le_refl _); replace xD := xD.below hb1; replace xg := xg.below hb1; replace hb := hb.trans (hb1.mono hb.size); clear hb1
      clear hi
      go_wp2_with fail
      subst hK
      refine ⟨xD, ?_⟩
      refine HeadAt.take (i := 5) (.tuple #[.agg #[.int .i64 p1, .int .i64 G1], .int .i64 0, .int .i64 0]) rfl (by kernel_rfl) (.inl ⟨rfl, fun _ _ => by simp [go_sem]⟩) xD ?_
      refine HeadAt.take (i := 6) (.agg #[.int .i64 p1, .int .i64 G1]) rfl (by kernel_rfl) (.inl ⟨rfl, fun _ _ => by simp [go_sem]⟩) xD ?_
      refine HeadAt.take (i := 7) (.int .i64 0) rfl (by kernel_rfl) (.inl ⟨rfl, fun _ _ => by simp [go_sem]⟩) xD ?_
      refine HeadAt.take (i := 8) (.int .i64 0) rfl (by kernel_rfl) (.inl ⟨rfl, fun _ _ => by simp [go_sem]⟩) xD ?_
      refine HeadAt.one (i := 10) rfl (by kernel_rfl) ?_
      generalize hK : Upto _ _ = K0
      (try simp only [Act.put, List.getElem_toArray, List.getElem_cons_succ, List.getElem_cons_zero, List.setIfInBounds_toArray, List.set_cons_succ, List.set_cons_zero])
      have g0 := xg.cell 0 rfl; have g1 := xg.cell 1 rfl
      have f0 := xg.free 0; have f1 := xg.free 1
      go_wp2_with fail
      replace xg := xg.set2 (.int .i64 p1) (.int .i64 G1)
      replace hb := Below.store (Below.store hb (p := ⟨g, 0, none⟩) (by show w.heap.size ≤ g; omega) (.int .i64 p1)) (p := ⟨g, 1, none⟩) (by show w.heap.size ≤ g; omega) (.int .i64 G1)
      replace xD := (xD.other (a := ⟨g, 0, none⟩) (by show w.heap.size ≠ g; omega) (.int .i64 p1)).other (a := ⟨g, 1, none⟩) (by show w.heap.size ≠ g; omega) (.int .i64 G1)
      clear g0 g1 f0 f1
      subst hK
      refine ⟨xD, ?_⟩
      refine HeadAt.take (i := 11) (.int .i64 0) rfl (by kernel_rfl) (.inl ⟨rfl, fun _ _ => by simp [go_sem]⟩) xD ?_
      refine HeadAt.done (by kernel_rfl) ?_
      (try simp only [Act.put, List.drop_succ_cons, List.drop_zero, List.getElem_toArray, List.getElem_cons_succ, List.getElem_cons_zero])
      go_wp2_with fail
      refine NoPanic.normal ?_
      go_wp2_with fail
      go_meet
      exact ⟨g, rfl, rfl, rfl, hge, xg, xD, hb⟩
  case rest =>
    rename_i wc
    clear xD hb xD2 hb' pl1 ru1 hND hCD hXD hYD
    obtain ⟨g, rfl, rfl, rfl, hge, xg, xD, hb⟩ := hcut
    go_wp2_with fail
    replace xD := xD.drew; replace xg := xg.drew; replace hb := hb.drew
    refine wp_region_head 10 (fun w' => Bx w' w.heap.size #[.int .i64 (R : Int), .slice an N.length cn, .slice ac C.length cc] 24 ∧ Bx w' g #[.int .i64 p1, .int .i64 G1] 26) (by kernel_rfl) rfl ?_
    generalize wc.drew = V0 at *
    refine HeadAt.take (i := 0) (.agg #[.int .i64 (R : Int), .slice an N.length cn, .slice ac C.length cc]) rfl (by kernel_rfl) (.inl ⟨rfl, fun w' z => ?_⟩) ⟨xD, xg⟩ ?_
    · (have y := z.1; have z0 := y.cell 0 rfl; have z1 := y.cell 1 rfl; have z2 := y.cell 2 rfl; simp [go_sem, z0, z1, z2])
    refine HeadAt.take (i := 1) (.pointer (some ⟨g, 0, none⟩)) rfl (by kernel_rfl) (.inl ⟨rfl, fun _ _ => by simp [go_sem]⟩) ⟨xD, xg⟩ ?_
    refine HeadAt.take (i := 2) (.int .i64 p1) rfl (by kernel_rfl) (.inl ⟨rfl, fun w' z => ?_⟩) ⟨xD, xg⟩ ?_
    · (have y := z.2; have z0 := y.cell 0 rfl; have z1 := y.cell 1 rfl; simp [go_sem, z0])
    refine HeadAt.take (i := 3) (.slice b ys.length cb) rfl (by kernel_rfl) (.inl ⟨rfl, fun _ _ => by simp [go_sem]⟩) ⟨xD, xg⟩ ?_
    refine HeadAt.one (i := 4) rfl (by kernel_rfl) ?_
    generalize hK : Upto _ _ = K0
    (try simp only [Act.put, List.getElem_toArray, List.getElem_cons_succ, List.getElem_cons_zero, List.setIfInBounds_toArray, List.set_cons_succ, List.set_cons_zero])
    go_wp2_with fail
    refine (joined1_any _ _ ys _ (hY0.below hb (Nat.le_refl _)) l2).mono ?_
    rintro e V1 ⟨hb1, a1, ca1, rfl, hi, -⟩
    replace xD := xD.below hb1; replace xg := xg.below hb1; replace hb := hb.trans (hb1.mono hb.size); clear hb1
    go_wp2_with fail
    subst hK
    refine ⟨⟨xD, xg⟩, ?_⟩
    refine HeadAt.one (i := 5) rfl (by kernel_rfl) ?_
    generalize hK : Upto _ _ = K0
    (try simp only [List.getElem_toArray, List.getElem_cons_succ, List.getElem_cons_zero])
    go_wp2_with fail
    refine (pl2 _ _ _ (hN0.below hb (Nat.le_refl _)) (hC0.below hb (Nat.le_refl _)) hi).mono ?_
    rintro e V2 ⟨rfl, hb1⟩
    replace xD := xD.below hb1; replace xg := xg.below hb1; replace hb := hb.trans (hb1.mono hb.size); clear hb1
    clear hi pl2
    go_wp2_with fail
    subst hK
    refine ⟨⟨xD, xg⟩, ?_⟩
    refine HeadAt.take (i := 6) (.tuple #[.int .i64 G2, .int .i64 0]) rfl (by kernel_rfl) (.inl ⟨rfl, fun _ _ => by simp [go_sem]⟩) ⟨xD, xg⟩ ?_
    refine HeadAt.take (i := 7) (.int .i64 G2) rfl (by kernel_rfl) (.inl ⟨rfl, fun _ _ => by simp [go_sem]⟩) ⟨xD, xg⟩ ?_
    refine HeadAt.take (i := 8) (.int .i64 0) rfl (by kernel_rfl) (.inl ⟨rfl, fun _ _ => by simp [go_sem]⟩) ⟨xD, xg⟩ ?_
    refine HeadAt.take (i := 9) (.int .i64 G2) rfl (by kernel_rfl) (.inl ⟨rfl, fun _ _ => by simp [go_sem]⟩) ⟨xD, xg⟩ ?_
    refine HeadAt.done (by kernel_rfl) ?_
    (try simp only [Act.put, List.drop_succ_cons, List.drop_zero, List.getElem_toArray, List.getElem_cons_succ, List.getElem_cons_zero])
    go_wp2_with fail
    refine NoPanic.normal ?_
    go_wp2_with fail
    replace xD := xD.drew; replace xg := xg.drew; replace hb := hb.drew
    refine wp_region_head 9 (fun w' => Bx w' w.heap.size #[.int .i64 (R : Int), .slice an N.length cn, .slice ac C.length cc] 24) (by kernel_rfl) rfl ?_
    refine HeadAt.take (i := 0) (.agg #[.int .i64 (R : Int), .slice an N.length cn, .slice ac C.length cc]) rfl (by kernel_rfl) (.inl ⟨rfl, fun w' z => ?_⟩) xD ?_
    · (have z0 := z.cell 0 rfl; have z1 := z.cell 1 rfl; have z2 := z.cell 2 rfl; simp [go_sem, z0, z1, z2])
    refine HeadAt.take (i := 1) (.slice a xs.length ca) rfl (by kernel_rfl) (.inl ⟨rfl, fun _ _ => by simp [go_sem]⟩) xD ?_
    refine HeadAt.take (i := 2) (.slice b ys.length cb) rfl (by kernel_rfl) (.inl ⟨rfl, fun _ _ => by simp [go_sem]⟩) xD ?_
    refine HeadAt.one (i := 3) rfl (by kernel_rfl) ?_
    generalize hK : Upto _ _ = K0
    (try simp only [Act.put, List.getElem_toArray, List.getElem_cons_succ, List.getElem_cons_zero, List.setIfInBounds_toArray, List.set_cons_succ, List.set_cons_zero])
    go_wp2_with fail
    refine (jn1 _ (hX0.below hb (Nat.le_refl _)) (hY0.below hb (Nat.le_refl _))).mono ?_
    rintro e V1 ⟨hb1, a1, ca1, rfl, hi, -⟩
    replace xD := xD.below hb1; replace xg := xg.below hb1; replace hb := hb.trans (hb1.mono hb.size); clear hb1
    go_wp2_with fail
    subst hK
    refine ⟨xD, ?_⟩
    refine HeadAt.one (i := 4) rfl (by kernel_rfl) ?_
    generalize hK : Upto _ _ = K0
    (try simp only [List.getElem_toArray, List.getElem_cons_succ, List.getElem_cons_zero])
    go_wp2_with fail
    refine (pl3 _ _ _ (hN0.below hb (Nat.le_refl _)) (hC0.below hb (Nat.le_refl _)) hi).mono ?_
    rintro e V2 ⟨rfl, hb1⟩
    replace xD := xD.below hb1; replace xg := xg.below hb1; replace hb := hb.trans (hb1.mono hb.size); clear hb1
    clear hi pl3
    go_wp2_with fail
    subst hK
    refine ⟨xD, ?_⟩
    refine HeadAt.take (i := 5) (.tuple #[.int .i64 ((G1 : Int) + (G2 : Int)), .int .i64 0]) rfl (by kernel_rfl) (.inl ⟨rfl, fun _ _ => by simp [go_sem]⟩) xD ?_
    refine HeadAt.take (i := 6) (.int .i64 ((G1 : Int) + (G2 : Int))) rfl (by kernel_rfl) (.inl ⟨rfl, fun _ _ => by simp [go_sem]⟩) xD ?_
    refine HeadAt.take (i := 7) (.int .i64 0) rfl (by kernel_rfl) (.inl ⟨rfl, fun _ _ => by simp [go_sem]⟩) xD ?_
    refine HeadAt.take (i := 8) (.int .i64 ((G1 : Int) + (G2 : Int))) rfl (by kernel_rfl) (.inl ⟨rfl, fun _ _ => by simp [go_sem]⟩) xD ?_
    refine HeadAt.done (by kernel_rfl) ?_
    (try simp only [Act.put, List.drop_succ_cons, List.drop_zero, List.getElem_toArray, List.getElem_cons_succ, List.getElem_cons_zero])
    go_wp2_with fail
    refine NoPanic.normal ?_
    go_wp2_with fail
    replace xD := xD.drew; replace xg := xg.drew; replace hb := hb.drew
    refine wp_region_head 9 (fun w' => Bx w' w.heap.size #[.int .i64 (R : Int), .slice an N.length cn, .slice ac C.length cc] 24) (by kernel_rfl) rfl ?_
    refine HeadAt.take (i := 0) (.agg #[.int .i64 (R : Int), .slice an N.length cn, .slice ac C.length cc]) rfl (by kernel_rfl) (.inl ⟨rfl, fun w' z => ?_⟩) xD ?_
    · (have z0 := z.cell 0 rfl; have z1 := z.cell 1 rfl; have z2 := z.cell 2 rfl; simp [go_sem, z0, z1, z2])
    refine HeadAt.take (i := 1) (.slice b ys.length cb) rfl (by kernel_rfl) (.inl ⟨rfl, fun _ _ => by simp [go_sem]⟩) xD ?_
    refine HeadAt.take (i := 2) (.slice a xs.length ca) rfl (by kernel_rfl) (.inl ⟨rfl, fun _ _ => by simp [go_sem]⟩) xD ?_
    refine HeadAt.one (i := 3) rfl (by kernel_rfl) ?_
    generalize hK : Upto _ _ = K0
    (try simp only [Act.put, List.getElem_toArray, List.getElem_cons_succ, List.getElem_cons_zero, List.setIfInBounds_toArray, List.set_cons_succ, List.set_cons_zero])
    go_wp2_with fail
    refine (jn2 _ (hX0.below hb (Nat.le_refl _)) (hY0.below hb (Nat.le_refl _))).mono ?_
    rintro e V1 ⟨hb1, a1, ca1, rfl, hi, -⟩
    replace xD := xD.below hb1; replace xg := xg.below hb1; replace hb := hb.trans (hb1.mono hb.size); clear hb1
    go_wp2_with fail
    subst hK
    refine ⟨xD, ?_⟩
    refine HeadAt.one (i := 4) rfl (by kernel_rfl) ?_
    generalize hK : Upto _ _ = K0
    (try simp only [List.getElem_toArray, List.getElem_cons_succ, List.getElem_cons_zero])
    go_wp2_with fail
    refine (pl4 _ _ _ (hN0.below hb (Nat.le_refl _)) (hC0.below hb (Nat.le_refl _)) hi).mono ?_
    rintro e V2 ⟨rfl, hb1⟩
    replace xD := xD.below hb1; replace xg := xg.below hb1; replace hb := hb.trans (hb1.mono hb.size); clear hb1
    clear hi pl4
    go_wp2_with fail
    subst hK
    refine ⟨xD, ?_⟩
    refine HeadAt.take (i := 5) (.tuple #[.int .i64 ((G1 : Int) + (G2 : Int)), .int .i64 0]) rfl (by kernel_rfl) (.inl ⟨rfl, fun _ _ => by simp [go_sem]⟩) xD ?_
    refine HeadAt.take (i := 6) (.int .i64 ((G1 : Int) + (G2 : Int))) rfl (by kernel_rfl) (.inl ⟨rfl, fun _ _ => by simp [go_sem]⟩) xD ?_
    refine HeadAt.take (i := 7) (.int .i64 0) rfl (by kernel_rfl) (.inl ⟨rfl, fun _ _ => by simp [go_sem]⟩) xD ?_
    refine HeadAt.take (i := 8) (.int .i64 ((G1 : Int) + (G2 : Int))) rfl (by kernel_rfl) (.inl ⟨rfl, fun _ _ => by simp [go_sem]⟩) xD ?_
    refine HeadAt.done (by kernel_rfl) ?_
    (try simp only [Act.put, List.drop_succ_cons, List.drop_zero, List.getElem_toArray, List.getElem_cons_succ, List.getElem_cons_zero])
    go_wp2_with fail
    refine NoPanic.normal ?_
    have g0 := xg.cell 0 rfl; have g1 := xg.cell 1 rfl
    go_wp2_with fail
    refine (works_any _).mono ?_
    rintro e V3 ⟨rfl, hb1⟩
    replace hb := hb.trans (hb1.mono hb.size)
    clear hb1 g0 g1 xD xg
    go_wp2
    go_ret
    exact ⟨rfl, hb⟩

def argSum (C xs ys : List Int) : Bool := decide (xs.length ≤ 10) && (decide (ys.length ≤ 10) && (kindsB C 0 xs && kindsB C 0 ys))

set_option maxRecDepth 100000 in
set_option maxHeartbeats 1000000 in
theorem sum_arg (r : Int) (an ac : Option Addr) (cn cc : Nat) (N C : List Int) (a b : Option Addr) (ca cb : Nat) (xs ys : List Int) (w : World) (hN : Ints w an N) (hC : Ints w ac C) (hX : Ints w a xs) (hY : Ints w b ys) (ho : (isWhl r N C && argSum C xs ys) = false) :
    Calls Try.prog 8 #[.agg #[.int .i64 r, .slice an N.length cn, .slice ac C.length cc], .slice a xs.length ca, .slice b ys.length cb] w (WorksP w) := by
  have lx := hX.len; have ly := hY.len
  obtain ⟨W, hW, hb, hs, x0⟩ := boxes1 w #[.int .i64 r, .slice an N.length cn, .slice ac C.length cc] 24
  clear hs
  replace hN := hN.below hb (Nat.le_refl _); replace hC := hC.below hb (Nat.le_refl _); replace hX := hX.below hb (Nat.le_refl _); replace hY := hY.below hb (Nat.le_refl _)
  have c0 := x0.cell 0 rfl; have c1 := x0.cell 1 rfl; have c2 := x0.cell 2 rfl
  cases hw : isWhl r N C
  · go_enter Try.func8, Try.ntmps8
    go_wp2_with fail
    refine (isWheel_any _ _ _ _ _ _ _ _ hN hC).mono ?_
    rintro e W1 ⟨rfl, hb1⟩
    rw [hw]
    clear hW c0 c1 c2
    replace x0 := x0.below hb1; replace hb := hb.trans (hb1.mono hb.size); clear hb1
    go_wp2_with fail
    refine (works_any _).mono ?_
    rintro e V3 ⟨rfl, hb1⟩
    replace hb := hb.trans (hb1.mono hb.size)
    clear hb1 x0
    go_wp2
    go_ret
    exact ⟨rfl, hb⟩
  · rw [hw, Bool.true_and] at ho
    by_cases h1 : xs.length ≤ 10
    · have d1 : decide ((10 : Int) < (xs.length : Int)) = false := by simp; omega
      by_cases h2 : ys.length ≤ 10
      · have d2 : decide ((10 : Int) < (ys.length : Int)) = false := by simp; omega
        have ho' : (kindsB C 0 xs && kindsB C 0 ys) = false := by simpa [argSum, h1, h2] using ho
        clear ho
        cases h3 : kindsB C 0 xs
        · clear ho'
          go_enter Try.func8, Try.ntmps8
          go_wp2_with fail
          refine (isWheel_any _ _ _ _ _ _ _ _ hN hC).mono ?_
          rintro e W1 ⟨rfl, hb1⟩
          rw [hw]
          clear hW
          replace hN := hN.below hb1 (Nat.le_refl _); replace hC := hC.below hb1 (Nat.le_refl _); replace hX := hX.below hb1 (Nat.le_refl _); replace hY := hY.below hb1 (Nat.le_refl _); (try clear c0 c1 c2); replace x0 := x0.below hb1; have c0 := x0.cell 0 rfl; have c1 := x0.cell 1 rfl; have c2 := x0.cell 2 rfl; replace hb := hb.trans (hb1.mono hb.size); clear hb1
          go_wp2_with fail
          refine (areKinds_any _ _ _ _ _ _ _ a ca xs 0 _ hC hX).mono ?_
          rintro e W2 ⟨rfl, hb1⟩
          rw [h3]
          replace hN := hN.below hb1 (Nat.le_refl _); replace hC := hC.below hb1 (Nat.le_refl _); replace hX := hX.below hb1 (Nat.le_refl _); replace hY := hY.below hb1 (Nat.le_refl _); (try clear c0 c1 c2); replace x0 := x0.below hb1; have c0 := x0.cell 0 rfl; have c1 := x0.cell 1 rfl; have c2 := x0.cell 2 rfl; replace hb := hb.trans (hb1.mono hb.size); clear hb1
          go_wp2_with fail
          refine (works_any _).mono ?_
          rintro e V3 ⟨rfl, hb1⟩
          replace hb := hb.trans (hb1.mono hb.size)
          clear hb1 x0 c0 c1 c2
          go_wp2
          go_ret
          exact ⟨rfl, hb⟩
        · have h4 : kindsB C 0 ys = false := by simpa [h3] using ho'
          clear ho'
          go_enter Try.func8, Try.ntmps8
          go_wp2_with fail
          refine (isWheel_any _ _ _ _ _ _ _ _ hN hC).mono ?_
          rintro e W1 ⟨rfl, hb1⟩
          rw [hw]
          clear hW
          replace hN := hN.below hb1 (Nat.le_refl _); replace hC := hC.below hb1 (Nat.le_refl _); replace hX := hX.below hb1 (Nat.le_refl _); replace hY := hY.below hb1 (Nat.le_refl _); (try clear c0 c1 c2); replace x0 := x0.below hb1; have c0 := x0.cell 0 rfl; have c1 := x0.cell 1 rfl; have c2 := x0.cell 2 rfl; replace hb := hb.trans (hb1.mono hb.size); clear hb1
          go_wp2_with fail
          refine (areKinds_any _ _ _ _ _ _ _ a ca xs 0 _ hC hX).mono ?_
          rintro e W2 ⟨rfl, hb1⟩
          rw [h3]
          replace hN := hN.below hb1 (Nat.le_refl _); replace hC := hC.below hb1 (Nat.le_refl _); replace hX := hX.below hb1 (Nat.le_refl _); replace hY := hY.below hb1 (Nat.le_refl _); (try clear c0 c1 c2); replace x0 := x0.below hb1; have c0 := x0.cell 0 rfl; have c1 := x0.cell 1 rfl; have c2 := x0.cell 2 rfl; replace hb := hb.trans (hb1.mono hb.size); clear hb1
          go_wp2_with fail
          refine (areKinds_any _ _ _ _ _ _ _ b cb ys 0 _ hC hY).mono ?_
          rintro e W2 ⟨rfl, hb1⟩
          rw [h4]
          replace hN := hN.below hb1 (Nat.le_refl _); replace hC := hC.below hb1 (Nat.le_refl _); replace hX := hX.below hb1 (Nat.le_refl _); replace hY := hY.below hb1 (Nat.le_refl _); (try clear c0 c1 c2); replace x0 := x0.below hb1; have c0 := x0.cell 0 rfl; have c1 := x0.cell 1 rfl; have c2 := x0.cell 2 rfl; replace hb := hb.trans (hb1.mono hb.size); clear hb1
          go_wp2_with fail
          refine (works_any _).mono ?_
          rintro e V3 ⟨rfl, hb1⟩
          replace hb := hb.trans (hb1.mono hb.size)
          clear hb1 x0 c0 c1 c2
          go_wp2
          go_ret
          exact ⟨rfl, hb⟩
      · have d2 : decide ((10 : Int) < (ys.length : Int)) = true := by simp; omega
        clear ho
        go_enter Try.func8, Try.ntmps8
        go_wp2_with fail
        refine (isWheel_any _ _ _ _ _ _ _ _ hN hC).mono ?_
        rintro e W1 ⟨rfl, hb1⟩
        rw [hw]
        clear hW c0 c1 c2
        replace x0 := x0.below hb1; replace hb := hb.trans (hb1.mono hb.size); clear hb1
        go_wp2_with fail
        refine (works_any _).mono ?_
        rintro e V3 ⟨rfl, hb1⟩
        replace hb := hb.trans (hb1.mono hb.size)
        clear hb1 x0
        go_wp2
        go_ret
        exact ⟨rfl, hb⟩
    · have d1 : decide ((10 : Int) < (xs.length : Int)) = true := by simp; omega
      clear ho
      go_enter Try.func8, Try.ntmps8
      go_wp2_with fail
      refine (isWheel_any _ _ _ _ _ _ _ _ hN hC).mono ?_
      rintro e W1 ⟨rfl, hb1⟩
      rw [hw]
      clear hW c0 c1 c2
      replace x0 := x0.below hb1; replace hb := hb.trans (hb1.mono hb.size); clear hb1
      go_wp2_with fail
      refine (works_any _).mono ?_
      rintro e V3 ⟨rfl, hb1⟩
      replace hb := hb.trans (hb1.mono hb.size)
      clear hb1 x0
      go_wp2
      go_ret
      exact ⟨rfl, hb⟩

theorem sum_any (r : Int) (an ac : Option Addr) (cn cc : Nat) (N C : List Int) (a b : Option Addr) (ca cb : Nat) (xs ys : List Int) (w : World) (hN : Ints w an N) (hC : Ints w ac C) (hX : Ints w a xs) (hY : Ints w b ys) :
    Calls Try.prog 8 #[.agg #[.int .i64 r, .slice an N.length cn, .slice ac C.length cc], .slice a xs.length ca, .slice b ys.length cb] w (WorksP w) := by
  cases ho : isWhl r N C && argSum C xs ys
  · exact sum_arg _ _ _ _ _ _ _ a b ca cb xs ys w hN hC hX hY ho
  · rw [Bool.and_eq_true] at ho
    obtain ⟨R, rfl, hv⟩ := isWhl_vw ho.1
    have h := ho.2
    simp only [argSum, Bool.and_eq_true, decide_eq_true_eq] at h
    exact sum_ok R _ _ _ _ _ _ a b ca cb xs ys w hN hC hX hY ho.1 hv h.1 h.2.1 h.2.2.1 h.2.2.2
end Go.Proofs.Ytmkmnedojgigoaa
