import Derived.Test.YtmkmnedojgigoaaI3
namespace Go.Proofs.Ytmkmnedojgigoaa
open Go.RowKit

/-- A slice reads as these cells. -/
def Cls (w : World) (A : Option Addr) (vs : List Value) : Prop := ∀ j u, vs[j]? = some u → ∃ b off, A = some ⟨b, off, none⟩ ∧ b < w.heap.size ∧ w.cell? ⟨b, off + j, none⟩ = some u
theorem Cls.below {w w' : World} {A : Option Addr} {vs : List Value} (h : Cls w A vs) {B : Nat} (hb : Below B w w') (hB : w.heap.size ≤ B) : Cls w' A vs := fun j u hj => by
  obtain ⟨b, off, ha, hlt, hc⟩ := h j u hj
  have hs := hb.size
  exact ⟨b, off, ha, by omega, by rw [hb.cell (p := ⟨b, off + j, none⟩) (by show b < B; omega)]; exact hc⟩
theorem Cls.nil {w : World} {vs : List Value} (h : Cls w none vs) : vs = [] := by
  rcases vs with _ | ⟨u, us⟩
  · rfl
  · obtain ⟨b, off, ha, _⟩ := h 0 u rfl
    cases ha
theorem Ints.cls {w : World} {A : Option Addr} {xs : List Int} (h : Ints w A xs) : Cls w A (xs.map (Value.int .i64)) := fun j u hj => by
  rw [List.getElem?_map] at hj
  have hlt : j < xs.length := by
    rcases Nat.lt_or_ge j xs.length with hl | hl
    · exact hl
    · rw [List.getElem?_eq_none hl] at hj; cases hj
  obtain ⟨b, off, ha, hb, hc⟩ := h.2.2 j hlt
  refine ⟨b, off, ha, hb, ?_⟩
  rw [hc, ← hj]
  simp [List.getD, hlt]

theorem ints_one (xs : List Int) : ∀ u ∈ xs.map (Value.int .i64), u.oneCell' = true := fun u hu => by
  obtain ⟨x, _, rfl⟩ := List.mem_map.1 hu
  rfl

section
variable {P : Program} {w : World}
/-- append of nothing. -/
theorem run_app_nil (base : Nat) (t ty e : TypeId) (i : TypeInfo) (size : Nat) (ht : P.underlying t = some (.slice e)) (hi : P.info? e = some i)
    (v : Value) (n : Nat) (xs : List Value) (hown : w.ownsRow base e size v n xs) (c : Nat) : (Builtin.append_ #[t, t] ty #[v, .slice none 0 c]).run P w = .ok v w := by
  rcases hown.2 with ⟨rfl, rfl⟩ | ⟨g, cap, cur, rfl, _, _, hnc, _⟩
  · simp [Builtin.append_, run_underlying ht, sizeOf, typeInfo, hi, Builtin.lenOf, Builtin.firstCells]
  · simp [Builtin.append_, run_underlying ht, sizeOf, typeInfo, hi, Builtin.lenOf, Builtin.firstCells, hnc, storeCells]

/-- append of a slice that is read, nil or not, to a row of the call's own. -/
theorem wpList_app {ops : Array Oper} {rest : List Oper} {o : Oper} {a : Act} {Q : Exit → Act → World → Prop} (hgd : o.guard = none) (s x : Operand) (t : TypeId)
    (ho : o.op = .call { callee := .builtin .append, args := #[s, x], argTypes := #[t, t] })
    (base : Nat) (e : TypeId) (i : TypeInfo) (z : Value) (size bytes : Nat) (ht : P.underlying t = some (.slice e)) (hi : P.info? e = some i) (hz : i.zero = some z)
    (hsize : i.size = size) (hby : i.bytes = bytes) (hzs : z.cells.size = size) (hsz : 0 < size)
    (v : Value) (n : Nat) (xs : List Value) (hs : a.eval s = v) (hown : w.ownsRow base e size v n xs)
    (A : Option Addr) (m c : Nat) (news : List Value) (hx : a.eval x = .slice A m c) (hl : news.length = m * size) (hr : Cls w A news) (h1 : ∀ u ∈ news, u.oneCell' = true)
    (h63 : n + m ≤ maxLen) (hbytes : (n + m) * bytes ≤ 140737488355328) (hbase : base ≤ w.heap.size)
    (h : ∀ v' w', w'.ownsRow base e size v' (n + m) (xs ++ news) → w.grownBy w' v.ownBlock → wpList P ops Q rest (a.put o.dst v') w') : wpList P ops Q (o :: rest) a w := by
  rcases A with _ | ad
  · have hn := hr.nil
    subst hn
    have hm : m = 0 := by
      rcases Nat.eq_zero_or_pos m with h0 | h0
      · exact h0
      · have := Nat.mul_pos h0 hsz
        simp at hl; omega
    subst hm
    refine wpList_plain hgd fun K hK => ?_
    have hrun := run_app_nil (P := P) base t o.type e i size ht hi v n xs hown c
    unfold Oper.wp
    simp [execOp, ho, resolve, invoke, builtin, hs, hx, hrun, Result.andThen]
    exact hK _ _ (h v w (by simpa using hown) (World.grownBy.refl w _))
  · refine wpList_append_own _ hgd s x t ho base e i z size bytes ht hi hz hsize hby hzs hsz v n xs hs hown ad m c news hx hl (fun j u hj => ?_) h1 h63 hbytes hbase (fun v' w' h2 h3 _ => h v' w' h2 h3)
    obtain ⟨b, off, ha, _, hc⟩ := hr j u hj
    cases ha
    have e1 : (⟨b, off, none⟩ : Addr).add j = ⟨b, off + j, none⟩ := by unfold Addr.add; split <;> simp_all
    rw [e1]
    exact hc
end

/-- The empty slice that a literal makes. -/
theorem own_lit0 (w : World) (e : TypeId) (size : Nat) : (w.alloc (.cells #[] e)).ownsRow w.heap.size e size (.slice (some ⟨w.heap.size, 0, none⟩) 0 0) 0 [] :=
  World.ownsRow_lit w #[] 0 (Nat.le_refl _) (by unfold maxLen; omega) (by simp)

set_option maxRecDepth 100000 in
set_option maxHeartbeats 1000000 in
theorem joined_any (A B : Option Addr) (c d : Nat) (xs ys : List Int) (w : World) (hX : Ints w A xs) (hY : Ints w B ys) (hl : xs.length + ys.length ≤ 1000) :
    Calls Try.prog 48 #[.slice A xs.length c, .slice B ys.length d] w (RowPost (xs ++ ys) w) := by
  obtain ⟨j0, hj, jz0, jz1, jz2⟩ := info_parts info3
  have hown := own_lit0 w 3 1
  have hb := below_one (w := w) (.cells #[] 3)
  have hX' := (hX.below hb (Nat.le_refl _)).cls
  have hY' := hY.below hb (Nat.le_refl _)
  go_enter Try.func48, Try.ntmps48
  go_wp2_with (first
    | (at_builtin; refine wpList_app rfl (.tmp 5) (.tmp 6) 22 rfl w.heap.size 3 j0 (.int .i64 0) 1 8 under22 hj jz0 jz1 jz2 rfl (by decide) _ 0 [] rfl hown A xs.length c _ rfl (by simp) hX' (ints_one xs) (by unfold maxLen; omega) (by omega) (by simp) ?_
       intro v1 w1 hown1 hg1
       have hge := own_ge hown
       have hb' : Below w.heap.size w w1 := hb.grown hg1 hb.size hge
       have hY1 := (hY.below hb' (Nat.le_refl _)).cls
       clear hown hX' hY')
    | (at_builtin; refine wpList_app rfl (.tmp 7) (.tmp 8) 22 rfl w.heap.size 3 j0 (.int .i64 0) 1 8 under22 hj jz0 jz1 jz2 rfl (by decide) v1 _ _ rfl hown1 B ys.length d _ rfl (by simp) hY1 (ints_one ys) (by unfold maxLen; omega) (by omega) hb'.size ?_
       intro v2 w2 hown2 hg2
       have hge1 := own_ge hown1
       have hb2 : Below w.heap.size w w2 := hb'.grown hg2 hb'.size hge1))
  have hown3 : w2.ownsRow w.heap.size 3 1 v2 (xs ++ ys).length ((xs ++ ys).map (Value.int .i64)) := by simpa using hown2
  obtain ⟨a, ca, rfl, hi⟩ := Ints.of_own hown3 (by simp; omega) (fun x hx => by
    rcases List.mem_append.1 hx with h | h
    · exact hX.2.1 x h
    · exact hY.2.1 x h)
  go_ret
  exact ⟨hb2, a, ca, rfl, hi, own_new hown3⟩
end Go.Proofs.Ytmkmnedojgigoaa
namespace Go.Proofs.Ytmkmnedojgigoaa
open Go.RowKit

def kindsB (C : List Int) (lo : Int) (xs : List Int) : Bool := xs.all (fun x => inR lo x (C.length - 1)) && decide ((xs.length : Int) ≤ 20)

set_option maxRecDepth 100000 in
set_option maxHeartbeats 1000000 in
theorem areKinds_any (r : Int) (an ac : Option Addr) (cn cc : Nat) (N C : List Int) (a : Option Addr) (ca : Nat) (xs : List Int) (lo : Int) (w : World) (hC : Ints w ac C) (hX : Ints w a xs) :
    Calls Try.prog 45 #[.agg #[.int .i64 r, .slice an N.length cn, .slice ac C.length cc], .slice a xs.length ca, .int .i64 lo] w fun e w' => e = .returned (.bool (kindsB C lo xs)) ∧ Below w.heap.size w w' := by
  have hm := hX.len
  have hcl := hC.len
  clear hC
  obtain ⟨W, hW, hb, hs, x0⟩ := boxes1 w #[.int .i64 r, .slice an N.length cn, .slice ac C.length cc] 24
  clear hs
  replace hX := hX.below hb (Nat.le_refl _)
  have c0 := x0.cell 0 rfl; have c1 := x0.cell 1 rfl; have c2 := x0.cell 2 rfl
  go_enter Try.func45, Try.ntmps45
  go_wp2
  clear hW c0 c1 c2
  go_loopw [7] (fun i wr => ∃ (k : Nat), k ≤ xs.length ∧ i = .int .i64 k ∧ Qd W wr ∧ xs.all (fun x => inR lo x (C.length - 1)) = (xs.drop k).all (fun x => inR lo x (C.length - 1))) (fun i _ => xs.length - (intOf i).toNat)
  case atStart => exact ⟨0, Nat.zero_le _, rfl, Qd.refl _, rfl⟩
  case round =>
    obtain ⟨k, hk, rfl, hq, hn⟩ := hrel
    have Hn := hid hn; clear hn
    replace hX := hX.qd hq
    have x1 := x0.below (hq.below _)
    have c0 := x1.cell 0 rfl; have c1 := x1.cell 1 rfl; have c2 := x1.cell 2 rfl
    by_cases hlt : k < xs.length
    · obtain ⟨b, off, x, rfl, hbs, hc, _, _, hx, hd⟩ := hX.at hlt
      have hkI : (k : Int) < (xs.length : Int) := by omega
      have hk0 : (0 : Int) ≤ (k : Int) := by omega
      cases he : inR lo x (C.length - 1)
      · go_wp2
        go_quiet ((go_at_call 58; exact quiet_eq (within_any _ _ _ _)))
        go_wp2
        go_ret
        exact ⟨ret_bool (by rw [kindsB, Hn.out, hd.out]; simp only [List.all_cons, he, Bool.false_and]), hb.trans ((hq.drewN _).below _ |>.mono hb.size)⟩
      · go_wp2
        go_quiet ((go_at_call 58; exact quiet_eq (within_any _ _ _ _)))
        go_wp2
        go_roundw
        case rel => exact ⟨k + 1, by omega, by go_num, hq.drewN _, by rw [Hn.out, hd.out]; simp only [List.all_cons, he, Bool.true_and]⟩
        case measure => simp [intOf]; omega
    · go_wp2
      go_ret
      exact ⟨ret_bool (by rw [kindsB, Hn.out, drop_end hk hlt]; rfl), hb.trans (hq.below _ |>.mono hb.size)⟩
end Go.Proofs.Ytmkmnedojgigoaa
