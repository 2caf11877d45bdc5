import Derived.Test.YtmkmnedojgigoaaK3
import Derived.Maps.AppendAt
namespace Go.Proofs.Ytmkmnedojgigoaa
open Go.RowKit

section
variable {P : Program} {w : World}
/-- append of a slice that is read, nil or not, to a row of the call's own; where the new row lies. -/
theorem wpList_appAt {ops : Array Oper} {rest : List Oper} {o : Oper} {a : Act} {Q : Exit → Act → World → Prop} (hgd : o.guard = none) (s x : Operand) (t : TypeId)
    (ho : o.op = .call { callee := .builtin .append, args := #[s, x], argTypes := #[t, t] })
    (base : Nat) (e : TypeId) (i : TypeInfo) (z : Value) (size bytes : Nat) (ht : P.underlying t = some (.slice e)) (hi : P.info? e = some i) (hz : i.zero = some z)
    (hsize : i.size = size) (hby : i.bytes = bytes) (hzs : z.cells.size = size) (hsz : 0 < size)
    (v : Value) (n : Nat) (xs : List Value) (hs : a.eval s = v) (hown : w.ownsRow base e size v n xs)
    (A : Option Addr) (m c : Nat) (news : List Value) (hx : a.eval x = .slice A m c) (hl : news.length = m * size) (hr : Cls w A news) (h1 : ∀ u ∈ news, u.oneCell' = true)
    (h63 : n + m ≤ maxLen) (hbytes : (n + m) * bytes ≤ 140737488355328) (hbase : base ≤ w.heap.size)
    (h : ∀ v' w', w'.ownsRow base e size v' (n + m) (xs ++ news) → w.grownBy w' v.ownBlock → (v'.ownBlock = v.ownBlock ∨ v'.ownBlock = some w.heap.size) → wpList P ops Q rest (a.put o.dst v') w') : wpList P ops Q (o :: rest) a w := by
  rcases A with _ | ad
  · have hn := hr.nil
    subst hn
    have hm : m = 0 := by
      rcases Nat.eq_zero_or_pos m with h0 | h0
      · exact h0
      · have := Nat.mul_pos h0 hsz
        simp at hl; omega
    subst hm
    refine wpList_plain hgd fun K hK => ?_
    have hrun := run_app_nil (P := P) base t o.type e i size ht hi v n xs hown c
    unfold Oper.wp
    simp [execOp, ho, resolve, invoke, builtin, hs, hx, hrun, Result.andThen]
    exact hK _ _ (h v w (by simpa using hown) (World.grownBy.refl w _) (.inl rfl))
  · refine wpList_append_own_at _ hgd s x t ho base e i z size bytes ht hi hz hsize hby hzs hsz v n xs hs hown ad m c news hx hl (fun j u hj => ?_) h1 h63 hbytes hbase (fun v' w' h2 h3 _ h5 => h v' w' h2 h3 h5)
    obtain ⟨b, off, ha, _, hc⟩ := hr j u hj
    cases ha
    have e1 : (⟨b, off, none⟩ : Addr).add j = ⟨b, off + j, none⟩ := by unfold Addr.add; split <;> simp_all
    rw [e1]
    exact hc
end

theorem own_litB (w : World) (e : TypeId) (size : Nat) {B : Nat} (hB : B ≤ w.heap.size) : (w.alloc (.cells #[] e)).ownsRow B e size (.slice (some ⟨w.heap.size, 0, none⟩) 0 0) 0 [] :=
  World.ownsRow_lit w #[] 0 hB (by unfold maxLen; omega) (by simp)
theorem own_off {a : Option Addr} {n c g h b : Nat} {m : Nat} (hat : (Value.slice a n c).ownBlock = some g ∨ (Value.slice a n c).ownBlock = some h) (h1 : g ≠ b) (h2 : h ≠ b) : Off b a m := fun _ x hx => by
  subst hx
  simp only [Value.ownBlock, Option.some.injEq] at hat
  omega

def CopyPost (r : Int) (N C : List Int) (w : World) (e : Ending) (w' : World) : Prop :=
  Below w.heap.size w w' ∧ ∃ (a1 a2 : Option Addr) (c1 c2 : Nat), e = .returned (.agg #[.int .i64 r, .slice a1 N.length c1, .slice a2 C.length c2]) ∧ Ints w' a1 N ∧ Ints w' a2 C

theorem copy_fin {r : Int} {a1 a2 : Option Addr} {c1 c2 g : Nat} {N C : List Int} {w W : World} (hg : g = w.heap.size + 1) (hb : Below w.heap.size w W) (xR : Bx W g #[.int .i64 0, .slice none 0 0, .slice none 0 0] 24) (h1 : Ints W a1 N) (h2 : Ints W a2 C) (o1 : Off g a1 N.length) (o2 : Off g a2 C.length) :
    ∃ Z, ((W.setCell ⟨g, 0, none⟩ (.int .i64 r)).setCell ⟨g, 1, none⟩ (.slice a1 N.length c1)).setCell ⟨g, 2, none⟩ (.slice a2 C.length c2) = Z ∧ Below w.heap.size w Z ∧ Bx Z g #[.int .i64 r, .slice a1 N.length c1, .slice a2 C.length c2] 24 ∧ Ints Z a1 N ∧ Ints Z a2 C := by
  refine ⟨_, rfl, ?_, xR.set3 _ _ _, ?_, ?_⟩
  · exact Below.store (Below.store (Below.store hb (by show w.heap.size ≤ g; omega) _) (by show w.heap.size ≤ g; omega) _) (by show w.heap.size ≤ g; omega) _
  · exact ((h1.set o1 _ _).set o1 _ _).set o1 _ _
  · exact ((h2.set o2 _ _).set o2 _ _).set o2 _ _

set_option maxRecDepth 100000 in
set_option maxHeartbeats 1000000 in
theorem copy_any (r : Int) (an ac : Option Addr) (cn cc : Nat) (N C : List Int) (w : World) (hN : Ints w an N) (hC : Ints w ac C) (hn : N.length ≤ 40) (hc : C.length ≤ 40) :
    Calls Try.prog 18 #[.agg #[.int .i64 r, .slice an N.length cn, .slice ac C.length cc]] w (CopyPost r N C w) := by
  obtain ⟨j0, hj, jz0, jz1, jz2⟩ := info_parts info3
  have hN0 := hN; have hC0 := hC
  clear hN hC
  obtain ⟨W, hW, hb, hs, xD, xR⟩ := boxes2 w #[.int .i64 r, .slice an N.length cn, .slice ac C.length cc] 24 #[.int .i64 0, .slice none 0 0, .slice none 0 0] 24
  clear hs
  go_enter Try.func18, Try.ntmps18
  go_wp2_with fail
  clear hW
  replace xD := xD.drew; replace xR := xR.drew; replace hb := hb.drew
  refine wp_region_head 11 (fun w' => Bx w' w.heap.size #[.int .i64 r, .slice an N.length cn, .slice ac C.length cc] 24) (by kernel_rfl) rfl ?_
  generalize W.drew = X0 at *
  refine HeadAt.take (i := 0) (.pointer (some ⟨w.heap.size, 0, none⟩)) rfl (by kernel_rfl) (.inl ⟨rfl, fun _ _ => by simp [go_sem]⟩) xD ?_
  refine HeadAt.take (i := 1) (.int .i64 r) rfl (by kernel_rfl) (.inl ⟨rfl, fun w' z => ?_⟩) xD ?_
  · (have z0 := z.cell 0 rfl; have z1 := z.cell 1 rfl; have z2 := z.cell 2 rfl; simp [go_sem, z0])
  refine HeadAt.take (i := 3) (.pointer (some ⟨w.heap.size, 1, none⟩)) rfl (by kernel_rfl) (.inl ⟨rfl, fun _ _ => by simp [go_sem]⟩) xD ?_
  refine HeadAt.take (i := 4) (.slice an N.length cn) rfl (by kernel_rfl) (.inl ⟨rfl, fun w' z => ?_⟩) xD ?_
  · (have z0 := z.cell 0 rfl; have z1 := z.cell 1 rfl; have z2 := z.cell 2 rfl; simp [go_sem, z1])
  refine HeadAt.take (i := 7) (.pointer (some ⟨w.heap.size, 2, none⟩)) rfl (by kernel_rfl) (.inl ⟨rfl, fun _ _ => by simp [go_sem]⟩) xD ?_
  refine HeadAt.take (i := 8) (.slice ac C.length cc) rfl (by kernel_rfl) (.inl ⟨rfl, fun w' z => ?_⟩) xD ?_
  · (have z0 := z.cell 0 rfl; have z1 := z.cell 1 rfl; have z2 := z.cell 2 rfl; simp [go_sem, z2])
  refine HeadAt.two (i := 2) (j := 6) rfl rfl (by kernel_rfl) ?_ ?_
  · skip
    generalize hK : Upto _ _ = K0
    (try simp only [Act.put, List.getElem_toArray, List.getElem_cons_succ, List.getElem_cons_zero, List.setIfInBounds_toArray, List.set_cons_succ, List.set_cons_zero])
    have hA := own_litB X0 3 1 (B := w.heap.size + 1 + 1) (by have := xR.lt; omega)
    have hb1 := below_one (w := X0) (.cells #[] 3)
    have lx := xR.lt
    have lA : X0.heap.size < (X0.alloc (.cells #[] 3)).heap.size := by simp
    go_wp2_with fail
    replace xD := xD.below hb1; replace xR := xR.below hb1; replace hb := hb.trans (hb1.mono hb.size); clear hb1
    generalize X0.alloc (.cells #[] 3) = X1 at *
    generalize X0.heap.size = gA at *
    subst hK
    refine ⟨xD, ?_⟩
    refine HeadAt.two (i := 5) (j := 6) rfl rfl (by kernel_rfl) ?_ ?_
    · skip
      generalize hK : Upto _ _ = K0
      (try simp only [List.getElem_toArray, List.getElem_cons_succ, List.getElem_cons_zero])
      have hcl := ((hN0).below hb (Nat.le_refl _)).cls
      have lR := xR.lt
      go_wp2_with (at_builtin; refine wpList_appAt rfl (.tmp 5) (.tmp 7) 22 rfl (w.heap.size + 1 + 1) 3 j0 (.int .i64 0) 1 8 under22 hj jz0 jz1 jz2 rfl (by decide) _ 0 [] rfl hA an N.length cn _ rfl (by simp) hcl (ints_one N) (by unfold maxLen; omega) (by omega) (by omega) ?_; intro v1 X2 hown' hg hat)
      subst hK
      have hge := own_ge hA
      replace hb : Below w.heap.size w X2 := hb.grown hg hb.size (fun k hk => by have := hge k hk; omega)
      replace xD := xD.gb hg (fun k hk => by have := hge k hk; omega)
      replace xR := xR.gb hg (fun k hk => by have := hge k hk; omega)
      obtain ⟨a1, c1, rfl, i1⟩ := Ints.of_own (w := X2) (xs := N) (by simpa using hown') hN0.len hN0.2.1
      have q1 : Off (w.heap.size + 1) a1 N.length := Off.of_new (own_new hown') (by omega)
      have hsz := hg.size
      clear hown' hg hat hge hcl lR
      refine ⟨xD, ?_⟩
      refine HeadAt.one (i := 6) rfl (by kernel_rfl) ?_
      generalize hK : Upto _ _ = K0
      (try simp only [List.getElem_toArray, List.getElem_cons_succ, List.getElem_cons_zero])
      have hB := own_litB X2 3 1 (B := w.heap.size + 1 + 1) (by have := xR.lt; omega)
      have hb1 := below_one (w := X2) (.cells #[] 3)
      have lx := xR.lt
      have lB : X2.heap.size < (X2.alloc (.cells #[] 3)).heap.size := by simp
      have o1 : Off X2.heap.size a1 N.length := Off.of_old i1 (Nat.le_refl _)
      replace i1 := i1.alloc (.cells #[] 3)
      go_wp2_with fail
      replace xD := xD.below hb1; replace xR := xR.below hb1; replace hb := hb.trans (hb1.mono hb.size); clear hb1
      generalize X2.alloc (.cells #[] 3) = X3 at *
      generalize X2.heap.size = gB at *
      subst hK
      refine ⟨xD, ?_⟩
      refine HeadAt.one (i := 9) rfl (by kernel_rfl) ?_
      generalize hK : Upto _ _ = K0
      (try simp only [List.getElem_toArray, List.getElem_cons_succ, List.getElem_cons_zero])
      have hcl := ((hC0).below hb (Nat.le_refl _)).cls
      have lR := xR.lt
      go_wp2_with (at_builtin; refine wpList_appAt rfl (.tmp 9) (.tmp 11) 22 rfl (w.heap.size + 1 + 1) 3 j0 (.int .i64 0) 1 8 under22 hj jz0 jz1 jz2 rfl (by decide) _ 0 [] rfl hB ac C.length cc _ rfl (by simp) hcl (ints_one C) (by unfold maxLen; omega) (by omega) (by omega) ?_; intro v1 X4 hown' hg hat)
      subst hK
      have hge := own_ge hB
      replace hb : Below w.heap.size w X4 := hb.grown hg hb.size (fun k hk => by have := hge k hk; omega)
      replace xD := xD.gb hg (fun k hk => by have := hge k hk; omega)
      replace xR := xR.gb hg (fun k hk => by have := hge k hk; omega)
      obtain ⟨a2, c2, rfl, i2⟩ := Ints.of_own (w := X4) (xs := C) (by simpa using hown') hC0.len hC0.2.1
      have q2 : Off (w.heap.size + 1) a2 C.length := Off.of_new (own_new hown') (by omega)
      replace i1 := i1.gr hg o1
      have hsz := hg.size
      clear hown' hg hat hge hcl lR
      refine ⟨xD, ?_⟩
      refine HeadAt.take (i := 10) (.agg #[.int .i64 r, .slice a1 N.length c1, .slice a2 C.length c2]) rfl (by kernel_rfl) (.inl ⟨rfl, fun _ _ => by simp [go_sem]⟩) xD ?_
      refine HeadAt.done (by kernel_rfl) ?_
      (try simp only [Act.put, List.drop_succ_cons, List.drop_zero, List.getElem_toArray, List.getElem_cons_succ, List.getElem_cons_zero])
      obtain ⟨Z, hZ, hbZ, xZ, j1, j2⟩ := copy_fin (r := r) (c1 := c1) (c2 := c2) rfl hb xR i1 i2 q1 q2
      have e0 := xR.cell 0 rfl; have e1 := xR.cell 1 rfl; have e2 := xR.cell 2 rfl
      have f0 := xR.free 0; have f1 := xR.free 1; have f2 := xR.free 2
      have z0 := xZ.cell 0 rfl; have z1 := xZ.cell 1 rfl; have z2 := xZ.cell 2 rfl
      go_wp2_with fail
      refine NoPanic.normal ?_
      go_wp2_with fail
      refine bodyPost_ret (v := .agg #[.int .i64 r, .slice a1 N.length c1, .slice a2 C.length c2]) ?_ rfl ⟨hbZ, a1, a2, c1, c2, rfl, j1, j2⟩
      simp [results, Try.results18, go_sem, z0, z1, z2]
    · skip
      generalize hK : Upto _ _ = K0
      (try simp only [List.getElem_toArray, List.getElem_cons_succ, List.getElem_cons_zero])
      have hB := own_litB X1 3 1 (B := w.heap.size + 1 + 1) (by have := xR.lt; omega)
      have hb1 := below_one (w := X1) (.cells #[] 3)
      have lx := xR.lt
      have lB : X1.heap.size < (X1.alloc (.cells #[] 3)).heap.size := by simp
      replace hA := hA.alloc (.cells #[] 3)
      have nA : gA < X1.heap.size := by omega
      go_wp2_with fail
      replace xD := xD.below hb1; replace xR := xR.below hb1; replace hb := hb.trans (hb1.mono hb.size); clear hb1
      generalize X1.alloc (.cells #[] 3) = X2 at *
      generalize X1.heap.size = gB at *
      subst hK
      refine ⟨xD, ?_⟩
      refine HeadAt.one (i := 5) rfl (by kernel_rfl) ?_
      generalize hK : Upto _ _ = K0
      (try simp only [List.getElem_toArray, List.getElem_cons_succ, List.getElem_cons_zero])
      have hcl := ((hN0).below hb (Nat.le_refl _)).cls
      have lR := xR.lt
      go_wp2_with (at_builtin; refine wpList_appAt rfl (.tmp 5) (.tmp 7) 22 rfl (w.heap.size + 1 + 1) 3 j0 (.int .i64 0) 1 8 under22 hj jz0 jz1 jz2 rfl (by decide) _ 0 [] rfl hA an N.length cn _ rfl (by simp) hcl (ints_one N) (by unfold maxLen; omega) (by omega) (by omega) ?_; intro v1 X3 hown' hg hat)
      subst hK
      have hge := own_ge hA
      replace hb : Below w.heap.size w X3 := hb.grown hg hb.size (fun k hk => by have := hge k hk; omega)
      replace xD := xD.gb hg (fun k hk => by have := hge k hk; omega)
      replace xR := xR.gb hg (fun k hk => by have := hge k hk; omega)
      obtain ⟨a1, c1, rfl, i1⟩ := Ints.of_own (w := X3) (xs := N) (by simpa using hown') hN0.len hN0.2.1
      have q1 : Off (w.heap.size + 1) a1 N.length := Off.of_new (own_new hown') (by omega)
      replace hB := hB.kept hg (.inr (fun h : some gB = some gA => by injection h with h; omega))
      have o1 : Off gB a1 N.length := own_off hat (by show gA ≠ gB; omega) (by omega)
      have hsz := hg.size
      clear hown' hg hat hge hcl lR
      refine ⟨xD, ?_⟩
      refine HeadAt.one (i := 9) rfl (by kernel_rfl) ?_
      generalize hK : Upto _ _ = K0
      (try simp only [List.getElem_toArray, List.getElem_cons_succ, List.getElem_cons_zero])
      have hcl := ((hC0).below hb (Nat.le_refl _)).cls
      have lR := xR.lt
      go_wp2_with (at_builtin; refine wpList_appAt rfl (.tmp 9) (.tmp 11) 22 rfl (w.heap.size + 1 + 1) 3 j0 (.int .i64 0) 1 8 under22 hj jz0 jz1 jz2 rfl (by decide) _ 0 [] rfl hB ac C.length cc _ rfl (by simp) hcl (ints_one C) (by unfold maxLen; omega) (by omega) (by omega) ?_; intro v1 X4 hown' hg hat)
      subst hK
      have hge := own_ge hB
      replace hb : Below w.heap.size w X4 := hb.grown hg hb.size (fun k hk => by have := hge k hk; omega)
      replace xD := xD.gb hg (fun k hk => by have := hge k hk; omega)
      replace xR := xR.gb hg (fun k hk => by have := hge k hk; omega)
      obtain ⟨a2, c2, rfl, i2⟩ := Ints.of_own (w := X4) (xs := C) (by simpa using hown') hC0.len hC0.2.1
      have q2 : Off (w.heap.size + 1) a2 C.length := Off.of_new (own_new hown') (by omega)
      replace i1 := i1.gr hg o1
      have hsz := hg.size
      clear hown' hg hat hge hcl lR
      refine ⟨xD, ?_⟩
      refine HeadAt.take (i := 10) (.agg #[.int .i64 r, .slice a1 N.length c1, .slice a2 C.length c2]) rfl (by kernel_rfl) (.inl ⟨rfl, fun _ _ => by simp [go_sem]⟩) xD ?_
      refine HeadAt.done (by kernel_rfl) ?_
      (try simp only [Act.put, List.drop_succ_cons, List.drop_zero, List.getElem_toArray, List.getElem_cons_succ, List.getElem_cons_zero])
      obtain ⟨Z, hZ, hbZ, xZ, j1, j2⟩ := copy_fin (r := r) (c1 := c1) (c2 := c2) rfl hb xR i1 i2 q1 q2
      have e0 := xR.cell 0 rfl; have e1 := xR.cell 1 rfl; have e2 := xR.cell 2 rfl
      have f0 := xR.free 0; have f1 := xR.free 1; have f2 := xR.free 2
      have z0 := xZ.cell 0 rfl; have z1 := xZ.cell 1 rfl; have z2 := xZ.cell 2 rfl
      go_wp2_with fail
      refine NoPanic.normal ?_
      go_wp2_with fail
      refine bodyPost_ret (v := .agg #[.int .i64 r, .slice a1 N.length c1, .slice a2 C.length c2]) ?_ rfl ⟨hbZ, a1, a2, c1, c2, rfl, j1, j2⟩
      simp [results, Try.results18, go_sem, z0, z1, z2]
  · skip
    generalize hK : Upto _ _ = K0
    (try simp only [Act.put, List.getElem_toArray, List.getElem_cons_succ, List.getElem_cons_zero, List.setIfInBounds_toArray, List.set_cons_succ, List.set_cons_zero])
    have hB := own_litB X0 3 1 (B := w.heap.size + 1 + 1) (by have := xR.lt; omega)
    have hb1 := below_one (w := X0) (.cells #[] 3)
    have lx := xR.lt
    have lB : X0.heap.size < (X0.alloc (.cells #[] 3)).heap.size := by simp
    go_wp2_with fail
    replace xD := xD.below hb1; replace xR := xR.below hb1; replace hb := hb.trans (hb1.mono hb.size); clear hb1
    generalize X0.alloc (.cells #[] 3) = X1 at *
    generalize X0.heap.size = gB at *
    subst hK
    refine ⟨xD, ?_⟩
    refine HeadAt.one (i := 2) rfl (by kernel_rfl) ?_
    generalize hK : Upto _ _ = K0
    (try simp only [List.getElem_toArray, List.getElem_cons_succ, List.getElem_cons_zero])
    have hA := own_litB X1 3 1 (B := w.heap.size + 1 + 1) (by have := xR.lt; omega)
    have hb1 := below_one (w := X1) (.cells #[] 3)
    have lx := xR.lt
    have lA : X1.heap.size < (X1.alloc (.cells #[] 3)).heap.size := by simp
    replace hB := hB.alloc (.cells #[] 3)
    have nB : gB < X1.heap.size := by omega
    go_wp2_with fail
    replace xD := xD.below hb1; replace xR := xR.below hb1; replace hb := hb.trans (hb1.mono hb.size); clear hb1
    generalize X1.alloc (.cells #[] 3) = X2 at *
    generalize X1.heap.size = gA at *
    subst hK
    refine ⟨xD, ?_⟩
    refine HeadAt.one (i := 5) rfl (by kernel_rfl) ?_
    generalize hK : Upto _ _ = K0
    (try simp only [List.getElem_toArray, List.getElem_cons_succ, List.getElem_cons_zero])
    have hcl := ((hN0).below hb (Nat.le_refl _)).cls
    have lR := xR.lt
    go_wp2_with (at_builtin; refine wpList_appAt rfl (.tmp 5) (.tmp 7) 22 rfl (w.heap.size + 1 + 1) 3 j0 (.int .i64 0) 1 8 under22 hj jz0 jz1 jz2 rfl (by decide) _ 0 [] rfl hA an N.length cn _ rfl (by simp) hcl (ints_one N) (by unfold maxLen; omega) (by omega) (by omega) ?_; intro v1 X3 hown' hg hat)
    subst hK
    have hge := own_ge hA
    replace hb : Below w.heap.size w X3 := hb.grown hg hb.size (fun k hk => by have := hge k hk; omega)
    replace xD := xD.gb hg (fun k hk => by have := hge k hk; omega)
    replace xR := xR.gb hg (fun k hk => by have := hge k hk; omega)
    obtain ⟨a1, c1, rfl, i1⟩ := Ints.of_own (w := X3) (xs := N) (by simpa using hown') hN0.len hN0.2.1
    have q1 : Off (w.heap.size + 1) a1 N.length := Off.of_new (own_new hown') (by omega)
    replace hB := hB.kept hg (.inr (fun h : some gB = some gA => by injection h with h; omega))
    have o1 : Off gB a1 N.length := own_off hat (by show gA ≠ gB; omega) (by omega)
    have hsz := hg.size
    clear hown' hg hat hge hcl lR
    refine ⟨xD, ?_⟩
    refine HeadAt.one (i := 9) rfl (by kernel_rfl) ?_
    generalize hK : Upto _ _ = K0
    (try simp only [List.getElem_toArray, List.getElem_cons_succ, List.getElem_cons_zero])
    have hcl := ((hC0).below hb (Nat.le_refl _)).cls
    have lR := xR.lt
    go_wp2_with (at_builtin; refine wpList_appAt rfl (.tmp 9) (.tmp 11) 22 rfl (w.heap.size + 1 + 1) 3 j0 (.int .i64 0) 1 8 under22 hj jz0 jz1 jz2 rfl (by decide) _ 0 [] rfl hB ac C.length cc _ rfl (by simp) hcl (ints_one C) (by unfold maxLen; omega) (by omega) (by omega) ?_; intro v1 X4 hown' hg hat)
    subst hK
    have hge := own_ge hB
    replace hb : Below w.heap.size w X4 := hb.grown hg hb.size (fun k hk => by have := hge k hk; omega)
    replace xD := xD.gb hg (fun k hk => by have := hge k hk; omega)
    replace xR := xR.gb hg (fun k hk => by have := hge k hk; omega)
    obtain ⟨a2, c2, rfl, i2⟩ := Ints.of_own (w := X4) (xs := C) (by simpa using hown') hC0.len hC0.2.1
    have q2 : Off (w.heap.size + 1) a2 C.length := Off.of_new (own_new hown') (by omega)
    replace i1 := i1.gr hg o1
    have hsz := hg.size
    clear hown' hg hat hge hcl lR
    refine ⟨xD, ?_⟩
    refine HeadAt.take (i := 10) (.agg #[.int .i64 r, .slice a1 N.length c1, .slice a2 C.length c2]) rfl (by kernel_rfl) (.inl ⟨rfl, fun _ _ => by simp [go_sem]⟩) xD ?_
    refine HeadAt.done (by kernel_rfl) ?_
    (try simp only [Act.put, List.drop_succ_cons, List.drop_zero, List.getElem_toArray, List.getElem_cons_succ, List.getElem_cons_zero])
    obtain ⟨Z, hZ, hbZ, xZ, j1, j2⟩ := copy_fin (r := r) (c1 := c1) (c2 := c2) rfl hb xR i1 i2 q1 q2
    have e0 := xR.cell 0 rfl; have e1 := xR.cell 1 rfl; have e2 := xR.cell 2 rfl
    have f0 := xR.free 0; have f1 := xR.free 1; have f2 := xR.free 2
    have z0 := xZ.cell 0 rfl; have z1 := xZ.cell 1 rfl; have z2 := xZ.cell 2 rfl
    go_wp2_with fail
    refine NoPanic.normal ?_
    go_wp2_with fail
    refine bodyPost_ret (v := .agg #[.int .i64 r, .slice a1 N.length c1, .slice a2 C.length c2]) ?_ rfl ⟨hbZ, a1, a2, c1, c2, rfl, j1, j2⟩
    simp [results, Try.results18, go_sem, z0, z1, z2]
end Go.Proofs.Ytmkmnedojgigoaa
