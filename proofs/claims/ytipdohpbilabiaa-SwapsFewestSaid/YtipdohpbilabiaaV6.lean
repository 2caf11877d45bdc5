import Derived.Test.YtipdohpbilabiaaV5
/-! The visit that is made of what comes in, where it is valid. -/
namespace Go.Proofs.Ytipdohpbilabiaa
set_option linter.unusedSimpArgs false
set_option linter.unusedVariables false
open Go Go.RowKit

theorem xx_stay (a0 a1 a2 a3 a4 a5 a6 a7 : Value) (s : Pl) {k : Nat} (hk : k < 3) : (#[a0, a1, a2, a3, a4, a5, a6, a7, .int .u8 (s.a : Int), .int .u8 (s.b : Int), .int .u8 (s.c : Int)] : Array Value)[8 + k]? = some (.int .u8 ((s.get k : Nat) : Int)) := by
  match k, hk with
  | 0, _ => rfl
  | 1, _ => rfl
  | 2, _ => rfl
theorem xx_set (a0 a1 a2 a3 a4 a5 a6 a7 : Value) (s : Pl) {k : Nat} (hk : k < 3) (t : Nat) : (#[a0, a1, a2, a3, a4, a5, a6, a7, .int .u8 (s.a : Int), .int .u8 (s.b : Int), .int .u8 (s.c : Int)] : Array Value).setIfInBounds (8 + k) (.int .u8 (t : Int)) = #[a0, a1, a2, a3, a4, a5, a6, a7, .int .u8 ((s.set k t).a : Int), .int .u8 ((s.set k t).b : Int), .int .u8 ((s.set k t).c : Int)] := by
  match k, hk with
  | 0, _ => rfl
  | 1, _ => rfl
  | 2, _ => rfl

set_option maxRecDepth 100000 in
set_option maxHeartbeats 6000000 in
theorem visitOf_ok (ab ast ae ak : Option Addr) (cb cs ce ck : Nat) (X : Sw) (w : World) (hX : Swp w ab ast ae ak X) (hv : vB X = true) (p q : Pl) (hp : p = planM X.bs) (hq : q = stayF X.ks) : Calls Try.prog 53 #[.agg #[.slice ab X.bs.length cb, .slice ast X.st.length cs, .slice ae X.er.length ce, .slice ak X.ks.length ck, .int .i64 X.ch], .bool true] w fun e w' => e = .returned (.tuple #[.agg #[.slice ab X.bs.length cb, .slice ast X.st.length cs, .slice ae X.er.length ce, .slice ak X.ks.length ck, .int .i64 X.ch, .int .u8 (p.a : Int), .int .u8 (p.b : Int), .int .u8 (p.c : Int), .int .u8 (q.a : Int), .int .u8 (q.b : Int), .int .u8 (q.c : Int)], .int .i64 0]) ∧ Below w.heap.size w w' := by
  have hok := vB_iff hv
  obtain ⟨W, hW, hbw, hsz, x0, x1⟩ := boxes2 w #[.slice ab X.bs.length cb, .slice ast X.st.length cs, .slice ae X.er.length ce, .slice ak X.ks.length ck, .int .i64 X.ch] 26 #[.slice none 0 0, .slice none 0 0, .slice none 0 0, .slice none 0 0, .int .i64 0, .int .u8 0, .int .u8 0, .int .u8 0, .int .u8 0, .int .u8 0, .int .u8 0] 72
  have hva := valid_any ab ast ae ak cb cs ce ck X W (hX.below hbw (Nat.le_refl _))
  rw [hv] at hva
  have hpo : ∀ l ∈ X.bs, ∀ x ∈ l, 0 ≤ x ∧ x < 6 := fun l hl x hx => by have := hok.title l hl x hx; have := hok.t6; omega
  have hpl := fun W' h => planOf_any ab cb X.bs W' h hok.nb3 hpo p hp
  have hgl := fun W' (h : Below w.heap.size w W') => hX.1.below h (Nat.le_refl _)
  have hgk := fun W' (h : Below w.heap.size w W') => hX.2.2.2.below h (Nat.le_refl _)
  have HQ := hid hq
  have HK := hid hok.keep
  have h3 := hok.nb3; have h4 := hok.k4; have h6 := hok.t6
  have hso : ∀ k, (stayF (X.ks.take k)).ok 64 := fun k => (stayF_ok (n := X.st.length) _ fun x hx => ((hok.keep x (List.mem_of_mem_take hx)).2.2)).le (Nat.pow_le_pow_right (n := 2) (by omega) h6)
  clear hX hp hq hv hok hpo
  have c0 := x0.cell 0 rfl; have c1 := x0.cell 1 rfl; have c2 := x0.cell 2 rfl; have c3 := x0.cell 3 rfl; have c4 := x0.cell 4 rfl
  go_enter Try.func53, Try.ntmps53
  go_wp2_with fail
  refine hva.mono ?_
  rintro e W1 ⟨rfl, hb1⟩
  replace hbw := hbw.trans (hb1.mono hbw.size)
  replace x0 := x0.below hb1
  replace x1 := x1.below hb1
  replace hsz : w.heap.size + 1 + 1 ≤ W1.heap.size := by have := hb1.size; omega
  clear hW c0 c1 c2 c3 c4 hb1 hva
  go_upto_region 5 with fail
  go_cut [6] (fun s6 wx => ∃ g : Nat, s6 = .pointer (some ⟨g, 0, none⟩) ∧ w.heap.size + 1 < g ∧ Bx wx g #[.slice ab X.bs.length cb, .slice ast X.st.length cs, .slice ae X.er.length ce, .slice ak X.ks.length ck, .int .i64 X.ch, .int .u8 (p.a : Int), .int .u8 (p.b : Int), .int .u8 (p.c : Int), .int .u8 0, .int .u8 0, .int .u8 0] 72 ∧ Bx wx (w.heap.size + 1) #[.slice none 0 0, .slice none 0 0, .slice none 0 0, .slice none 0 0, .int .i64 0, .int .u8 0, .int .u8 0, .int .u8 0, .int .u8 0, .int .u8 0, .int .u8 0] 72 ∧ Bx wx w.heap.size #[.slice ab X.bs.length cb, .slice ast X.st.length cs, .slice ae X.er.length ce, .slice ak X.ks.length ck, .int .i64 X.ch] 26 ∧ Below w.heap.size w wx)
  case first =>
    have hbd := (Below.refl W1.heap.size W1).drew
    have S0 := x0.below hbd
    replace x1 := x1.below hbd
    replace hbw := hbw.trans (hbd.mono hbw.size)
    have hsz' : w.heap.size + 1 + 1 ≤ W1.drew.heap.size := hsz
    clear hbd x0 hsz hgk HK hso
    refine wp_region_head 6 (fun w' => Bx w' w.heap.size #[.slice ab X.bs.length cb, .slice ast X.st.length cs, .slice ae X.er.length ce, .slice ak X.ks.length ck, .int .i64 X.ch] 26) (by kernel_rfl) rfl ?_
    generalize W1.drew = Y0 at *
    refine HeadAt.take (i := 0) (.agg #[.slice ab X.bs.length cb, .slice ast X.st.length cs, .slice ae X.er.length ce, .slice ak X.ks.length ck, .int .i64 X.ch]) rfl (by kernel_rfl) (.inl ⟨rfl, fun w' z => ?_⟩) S0 ?_
    · (have z0 := z.cell 0 rfl; have z1 := z.cell 1 rfl; have z2 := z.cell 2 rfl; have z3 := z.cell 3 rfl; have z4 := z.cell 4 rfl; simp [go_sem, z0, z1, z2, z3, z4])
    refine HeadAt.take (i := 1) (.pointer (some ⟨w.heap.size, 0, none⟩)) rfl (by kernel_rfl) (.inl ⟨rfl, fun _ _ => by simp [go_sem]⟩) S0 ?_
    (try simp only [Act.put, List.getElem_toArray, List.getElem_cons_succ, List.getElem_cons_zero, List.setIfInBounds_toArray, List.set_cons_succ, List.set_cons_zero])
    refine HeadAt.take (i := 2) (.slice ab X.bs.length cb) rfl (by kernel_rfl) (.inl ⟨rfl, fun w' z => ?_⟩) S0 ?_
    · (have z0 := z.cell 0 rfl; simp [go_sem, z0])
    (try simp only [Act.put, List.getElem_toArray, List.getElem_cons_succ, List.getElem_cons_zero, List.setIfInBounds_toArray, List.set_cons_succ, List.set_cons_zero])
    refine HeadAt.two (i := 3) (j := 5) rfl rfl (by kernel_rfl) ?_ ?_
    · skip
      generalize hK : Upto _ _ = K0
      (try simp only [Act.put, List.getElem_toArray, List.getElem_cons_succ, List.getElem_cons_zero, List.setIfInBounds_toArray, List.set_cons_succ, List.set_cons_zero])
      go_wp2_with fail
      refine (hpl _ (hgl _ hbw)).mono ?_
      rintro e V1 ⟨rfl, hb1⟩
      replace S0 := S0.below hb1; replace x1 := x1.below hb1
      replace hbw := hbw.trans (hb1.mono hbw.size)
      replace hsz' := Nat.le_trans hsz' hb1.size
      clear hb1 hpl hgl
      go_wp2_with fail
      subst hK
      refine ⟨S0, ?_⟩
      (try simp only [Act.put, List.getElem_toArray, List.getElem_cons_succ, List.getElem_cons_zero, List.setIfInBounds_toArray, List.set_cons_succ, List.set_cons_zero])
      refine HeadAt.take (i := 4) (.agg #[.slice ab X.bs.length cb, .slice ast X.st.length cs, .slice ae X.er.length ce, .slice ak X.ks.length ck, .int .i64 X.ch, .int .u8 (p.a : Int), .int .u8 (p.b : Int), .int .u8 (p.c : Int), .int .u8 0, .int .u8 0, .int .u8 0]) rfl (by kernel_rfl) (.inl ⟨rfl, fun w' z => ?_⟩) S0 ?_
      · (simp [go_sem])
      refine HeadAt.one (i := 5) rfl (by kernel_rfl) ?_
      generalize hK : Upto _ _ = K0
      (try simp only [Act.put, List.getElem_toArray, List.getElem_cons_succ, List.getElem_cons_zero, List.setIfInBounds_toArray, List.set_cons_succ, List.set_cons_zero])
      have hb1 := below_one (w := V1) (.cells #[.slice none 0 0, .slice none 0 0, .slice none 0 0, .slice none 0 0, .int .i64 0, .int .u8 0, .int .u8 0, .int .u8 0, .int .u8 0, .int .u8 0, .int .u8 0] 72)
      have HX := hid (And.intro (S0.below hb1) (And.intro (x1.below hb1) (And.intro (hbw.trans (hb1.mono hbw.size)) (Bx.new V1 #[.slice none 0 0, .slice none 0 0, .slice none 0 0, .slice none 0 0, .int .i64 0, .int .u8 0, .int .u8 0, .int .u8 0, .int .u8 0, .int .u8 0, .int .u8 0] 72))))
      clear hb1
      go_wp2_with fail
      subst hK
      obtain ⟨S1, x1', hbw', xg⟩ := HX.out
      refine ⟨S1, ?_⟩
      (try simp only [Act.put, List.getElem_toArray, List.getElem_cons_succ, List.getElem_cons_zero, List.setIfInBounds_toArray, List.set_cons_succ, List.set_cons_zero])
      obtain ⟨g, hg⟩ : ∃ g, g = V1.heap.size := ⟨_, rfl⟩
      have hgs : w.heap.size + 1 < g := by omega
      rw [← hg] at xg ⊢
      clear hg HX S0 x1 hbw hsz'
      generalize V1.alloc _ = V2 at *
      refine HeadAt.done (by kernel_rfl) ?_
      (try simp only [Act.put, List.drop_succ_cons, List.drop_zero, List.getElem_toArray, List.getElem_cons_succ, List.getElem_cons_zero])
      have d0 := xg.cell 0 rfl; have d1 := xg.cell 1 rfl; have d2 := xg.cell 2 rfl; have d3 := xg.cell 3 rfl; have d4 := xg.cell 4 rfl; have d5 := xg.cell 5 rfl; have d6 := xg.cell 6 rfl; have d7 := xg.cell 7 rfl; have d8 := xg.cell 8 rfl; have d9 := xg.cell 9 rfl; have d10 := xg.cell 10 rfl
      have f0 := xg.free 0; have f1 := xg.free 1; have f2 := xg.free 2; have f3 := xg.free 3; have f4 := xg.free 4; have f5 := xg.free 5; have f6 := xg.free 6; have f7 := xg.free 7; have f8 := xg.free 8; have f9 := xg.free 9; have f10 := xg.free 10
      have xg' := xg.set11 (.slice ab X.bs.length cb) (.slice ast X.st.length cs) (.slice ae X.er.length ce) (.slice ak X.ks.length ck) (.int .i64 X.ch) (.int .u8 (p.a : Int)) (.int .u8 (p.b : Int)) (.int .u8 (p.c : Int)) (.int .u8 0) (.int .u8 0) (.int .u8 0)
      have hb' := below_put11 hbw' (b := g) (by omega) (.slice ab X.bs.length cb) (.slice ast X.st.length cs) (.slice ae X.er.length ce) (.slice ak X.ks.length ck) (.int .i64 X.ch) (.int .u8 (p.a : Int)) (.int .u8 (p.b : Int)) (.int .u8 (p.c : Int)) (.int .u8 0) (.int .u8 0) (.int .u8 0)
      have x1'' := x1'.other11 (b := g) (by omega) (.slice ab X.bs.length cb) (.slice ast X.st.length cs) (.slice ae X.er.length ce) (.slice ak X.ks.length ck) (.int .i64 X.ch) (.int .u8 (p.a : Int)) (.int .u8 (p.b : Int)) (.int .u8 (p.c : Int)) (.int .u8 0) (.int .u8 0) (.int .u8 0)
      have S1'' := S1.other11 (b := g) (by omega) (.slice ab X.bs.length cb) (.slice ast X.st.length cs) (.slice ae X.er.length ce) (.slice ak X.ks.length ck) (.int .i64 X.ch) (.int .u8 (p.a : Int)) (.int .u8 (p.b : Int)) (.int .u8 (p.c : Int)) (.int .u8 0) (.int .u8 0) (.int .u8 0)
      have HY := hid (And.intro hgs (And.intro xg' (And.intro x1'' (And.intro S1'' hb'))))
      clear xg' hb' x1'' S1''
      go_wp2_with fail
      refine NoPanic.normal ?_
      go_wp2_with fail
      go_meet
      exact ⟨g, rfl, HY.out⟩
    · skip
      generalize hK : Upto _ _ = K0
      (try simp only [Act.put, List.getElem_toArray, List.getElem_cons_succ, List.getElem_cons_zero, List.setIfInBounds_toArray, List.set_cons_succ, List.set_cons_zero])
      have hb1 := below_one (w := Y0) (.cells #[.slice none 0 0, .slice none 0 0, .slice none 0 0, .slice none 0 0, .int .i64 0, .int .u8 0, .int .u8 0, .int .u8 0, .int .u8 0, .int .u8 0, .int .u8 0] 72)
      have HX := hid (And.intro (S0.below hb1) (And.intro (x1.below hb1) (And.intro (hbw.trans (hb1.mono hbw.size)) (Bx.new Y0 #[.slice none 0 0, .slice none 0 0, .slice none 0 0, .slice none 0 0, .int .i64 0, .int .u8 0, .int .u8 0, .int .u8 0, .int .u8 0, .int .u8 0, .int .u8 0] 72))))
      clear hb1
      go_wp2_with fail
      subst hK
      obtain ⟨S1, x1', hbw', xg⟩ := HX.out
      refine ⟨S1, ?_⟩
      (try simp only [Act.put, List.getElem_toArray, List.getElem_cons_succ, List.getElem_cons_zero, List.setIfInBounds_toArray, List.set_cons_succ, List.set_cons_zero])
      obtain ⟨g, hg⟩ : ∃ g, g = Y0.heap.size := ⟨_, rfl⟩
      have hgs : w.heap.size + 1 < g := by omega
      rw [← hg] at xg ⊢
      clear hg HX S0 x1 hbw hsz'
      generalize Y0.alloc _ = V2 at *
      refine HeadAt.one (i := 3) rfl (by kernel_rfl) ?_
      generalize hK : Upto _ _ = K0
      (try simp only [Act.put, List.getElem_toArray, List.getElem_cons_succ, List.getElem_cons_zero, List.setIfInBounds_toArray, List.set_cons_succ, List.set_cons_zero])
      go_wp2_with fail
      refine (hpl _ (hgl _ hbw')).mono ?_
      rintro e V1 ⟨rfl, hb1⟩
      replace S1 := S1.below hb1; replace x1' := x1'.below hb1; replace xg := xg.below hb1
      replace hbw' := hbw'.trans (hb1.mono hbw'.size)
      clear hb1 hpl hgl
      go_wp2_with fail
      subst hK
      refine ⟨S1, ?_⟩
      (try simp only [Act.put, List.getElem_toArray, List.getElem_cons_succ, List.getElem_cons_zero, List.setIfInBounds_toArray, List.set_cons_succ, List.set_cons_zero])
      refine HeadAt.take (i := 4) (.agg #[.slice ab X.bs.length cb, .slice ast X.st.length cs, .slice ae X.er.length ce, .slice ak X.ks.length ck, .int .i64 X.ch, .int .u8 (p.a : Int), .int .u8 (p.b : Int), .int .u8 (p.c : Int), .int .u8 0, .int .u8 0, .int .u8 0]) rfl (by kernel_rfl) (.inl ⟨rfl, fun w' z => ?_⟩) S1 ?_
      · (simp [go_sem])
      refine HeadAt.done (by kernel_rfl) ?_
      (try simp only [Act.put, List.drop_succ_cons, List.drop_zero, List.getElem_toArray, List.getElem_cons_succ, List.getElem_cons_zero])
      have d0 := xg.cell 0 rfl; have d1 := xg.cell 1 rfl; have d2 := xg.cell 2 rfl; have d3 := xg.cell 3 rfl; have d4 := xg.cell 4 rfl; have d5 := xg.cell 5 rfl; have d6 := xg.cell 6 rfl; have d7 := xg.cell 7 rfl; have d8 := xg.cell 8 rfl; have d9 := xg.cell 9 rfl; have d10 := xg.cell 10 rfl
      have f0 := xg.free 0; have f1 := xg.free 1; have f2 := xg.free 2; have f3 := xg.free 3; have f4 := xg.free 4; have f5 := xg.free 5; have f6 := xg.free 6; have f7 := xg.free 7; have f8 := xg.free 8; have f9 := xg.free 9; have f10 := xg.free 10
      have xg' := xg.set11 (.slice ab X.bs.length cb) (.slice ast X.st.length cs) (.slice ae X.er.length ce) (.slice ak X.ks.length ck) (.int .i64 X.ch) (.int .u8 (p.a : Int)) (.int .u8 (p.b : Int)) (.int .u8 (p.c : Int)) (.int .u8 0) (.int .u8 0) (.int .u8 0)
      have hb' := below_put11 hbw' (b := g) (by omega) (.slice ab X.bs.length cb) (.slice ast X.st.length cs) (.slice ae X.er.length ce) (.slice ak X.ks.length ck) (.int .i64 X.ch) (.int .u8 (p.a : Int)) (.int .u8 (p.b : Int)) (.int .u8 (p.c : Int)) (.int .u8 0) (.int .u8 0) (.int .u8 0)
      have x1'' := x1'.other11 (b := g) (by omega) (.slice ab X.bs.length cb) (.slice ast X.st.length cs) (.slice ae X.er.length ce) (.slice ak X.ks.length ck) (.int .i64 X.ch) (.int .u8 (p.a : Int)) (.int .u8 (p.b : Int)) (.int .u8 (p.c : Int)) (.int .u8 0) (.int .u8 0) (.int .u8 0)
      have S1'' := S1.other11 (b := g) (by omega) (.slice ab X.bs.length cb) (.slice ast X.st.length cs) (.slice ae X.er.length ce) (.slice ak X.ks.length ck) (.int .i64 X.ch) (.int .u8 (p.a : Int)) (.int .u8 (p.b : Int)) (.int .u8 (p.c : Int)) (.int .u8 0) (.int .u8 0) (.int .u8 0)
      have HY := hid (And.intro hgs (And.intro xg' (And.intro x1'' (And.intro S1'' hb'))))
      clear xg' hb' x1'' S1''
      go_wp2_with fail
      refine NoPanic.normal ?_
      go_wp2_with fail
      go_meet
      exact ⟨g, rfl, HY.out⟩
  case rest =>
    clear hbw x0 x1 hsz
    obtain ⟨g, rfl, hg, xg, x1, x0, hb⟩ := hcut
    have c0 := x0.cell 0 rfl; have c1 := x0.cell 1 rfl; have c2 := x0.cell 2 rfl; have c3 := x0.cell 3 rfl; have c4 := x0.cell 4 rfl
    obtain ⟨nk, hnk⟩ : ∃ n, n = X.ks.length := ⟨_, rfl⟩
    have HNK := hid hnk
    have hnkI : (nk : Int) ≤ 4 := by omega
    clear hnk hpl hgl
    go_wp2
    clear c0 c1 c2 c3 c4 x0
    have h00 : stayF (X.ks.take 0) = pl0 := rfl
    go_loopw [8, 26] (fun v8 v26 wr => ∃ (k : Nat) (st : Pl), k ≤ nk ∧ v26 = .int .i64 (k : Int) ∧ Hid (st = stayF (X.ks.take k)) ∧ Bx wr g #[.slice ab X.bs.length cb, .slice ast X.st.length cs, .slice ae X.er.length ce, .slice ak X.ks.length ck, .int .i64 X.ch, .int .u8 (p.a : Int), .int .u8 (p.b : Int), .int .u8 (p.c : Int), .int .u8 (st.a : Int), .int .u8 (st.b : Int), .int .u8 (st.c : Int)] 72 ∧ Bx wr (w.heap.size + 1) #[.slice none 0 0, .slice none 0 0, .slice none 0 0, .slice none 0 0, .int .i64 0, .int .u8 0, .int .u8 0, .int .u8 0, .int .u8 0, .int .u8 0, .int .u8 0] 72 ∧ Below w.heap.size w wr) (fun _ v26 _ => nk - (intOf v26).toNat)
    case atStart => exact ⟨0, pl0, Nat.zero_le _, rfl, hid h00.symm, xg, x1, hb⟩
    case round =>
      clear xg x1 hb
      obtain ⟨k, st, hk, rfl, HS, xg, x1, hb⟩ := hrel
      by_cases hlt : k < nk
      · obtain ⟨b, off, kb, kt, rfl, hbl, hc, hd, hk1, hk2, hgt, _⟩ := (hgk _ hb).at (k := k) (by rw [← HNK.out]; exact hlt)
        have hkk := HK.out (kb, kt) (List.mem_of_getElem? hgt.out)
        have hsk : stayF (X.ks.take (k + 1)) = st.set kb.toNat (st.get kb.toNat ||| mask [kt]) := by
          rw [List.take_add_one, hgt.out]
          have := stayF_snoc (X.ks.take k) (kb, kt)
          rw [← HS.out] at this
          exact this
        have hst64 : st.ok 64 := by rw [HS.out]; exact hso k
        obtain ⟨j, rfl⟩ := Int.eq_ofNat_of_zero_le (show 0 ≤ kb from hkk.1)
        rw [Int.toNat_natCast] at hsk
        have hj3 : j < 3 := by have := hkk.2.1; simp only at this; omega
        have hjI : (j : Int) < 3 := by omega
        have hj0 : (0 : Int) ≤ (j : Int) := by omega
        have hkt : ∀ y ∈ [kt], 0 ≤ y ∧ y < 6 := fun y hy => by
          have := hkk.2.2; simp only at this
          rw [List.mem_singleton.1 hy]; omega
        have hml := mask_lt hkt
        have hor := (or_dec _ (hst64.get j) _ hml).1
        have hkI : (k : Int) < (X.ks.length : Int) := by rw [← HNK.out]; omega
        have hk0 : (0 : Int) ≤ (k : Int) := by omega
        have hbr := hb.trans ((below_one (w := wr) (.cells #[.int .i64 (j : Int), .int .i64 kt] 55)).mono hb.size)
        have xg3 := xg.alloc (.cells #[.int .i64 (j : Int), .int .i64 kt] 55)
        have x13 := x1.alloc (.cells #[.int .i64 (j : Int), .int .i64 kt] 55)
        have x8 := Bx.new wr #[.int .i64 (j : Int), .int .i64 kt] 55
        have hg8 : g < wr.heap.size := xg.lt
        clear hkk hgt xg x1 hb
        go_upto_region 9 with fail
        obtain ⟨b8, hb8⟩ : ∃ b, b = wr.heap.size := ⟨_, rfl⟩
        obtain ⟨W3, hW3⟩ : ∃ W, W = wr.alloc (.cells #[.int .i64 (j : Int), .int .i64 kt] 55) := ⟨_, rfl⟩
        rw [← hb8] at x8 hg8 ⊢
        rw [← hW3] at xg3 x13 x8 hbr ⊢
        clear hb8 hW3 hc hd
        have HSK := hid hsk
        obtain ⟨m, hm⟩ : ∃ m, m = mask [kt] := ⟨_, rfl⟩
        have HM := hid hm
        have hti := fun a c V h => titlesOf_any a c [kt] V h hkt
        rw [← hm] at hml hor hti
        obtain ⟨y, hy⟩ : ∃ y, y = st.get j := ⟨_, rfl⟩
        have HY := hid hy
        rw [← hy] at hor
        clear hsk hm hy hkt
        obtain ⟨o, ho⟩ : ∃ o, o = y ||| m := ⟨_, rfl⟩
        have HO := hid ho
        rw [← ho] at hor
        clear ho
        have hgc := fun a0 a1 a2 a3 a4 a5 a6 a7 => xx_stay a0 a1 a2 a3 a4 a5 a6 a7 st hj3
        rw [← HY.out] at hgc
        have hbd := (Below.refl W3.heap.size W3).drew
        have S0 := And.intro (xg3.below hbd) (x8.below hbd)
        replace x13 := x13.below hbd
        replace hbr := hbr.trans (hbd.mono hbr.size)
        clear hbd xg3 x8
        refine wp_region_head 12 (fun w' => Bx w' g #[.slice ab X.bs.length cb, .slice ast X.st.length cs, .slice ae X.er.length ce, .slice (some ⟨b, off, none⟩) X.ks.length ck, .int .i64 X.ch, .int .u8 (p.a : Int), .int .u8 (p.b : Int), .int .u8 (p.c : Int), .int .u8 (st.a : Int), .int .u8 (st.b : Int), .int .u8 (st.c : Int)] 72 ∧ Bx w' b8 #[.int .i64 (j : Int), .int .i64 kt] 55) (by kernel_rfl) rfl ?_
        generalize W3.drew = Y0 at *
        refine HeadAt.take (i := 0) (.pointer (some ⟨b8, 0, none⟩)) rfl (by kernel_rfl) (.inl ⟨rfl, fun _ _ => by simp [go_sem]⟩) S0 ?_
        (try simp only [Act.put, List.getElem_toArray, List.getElem_cons_succ, List.getElem_cons_zero, List.setIfInBounds_toArray, List.set_cons_succ, List.set_cons_zero])
        refine HeadAt.take (i := 1) (.int .i64 (j : Int)) rfl (by kernel_rfl) (.inl ⟨rfl, fun w' z => ?_⟩) S0 ?_
        · (have z0 := z.2.cell 0 rfl; simp [go_sem, z0])
        refine HeadAt.take (i := 2) (.pointer (some ⟨g, 8, none⟩)) rfl (by kernel_rfl) (.inl ⟨rfl, fun _ _ => by simp [go_sem]⟩) S0 ?_
        (try simp only [Act.put, List.getElem_toArray, List.getElem_cons_succ, List.getElem_cons_zero, List.setIfInBounds_toArray, List.set_cons_succ, List.set_cons_zero])
        refine HeadAt.take (i := 3) (.pointer (some ⟨g, 8 + j, none⟩)) rfl (by kernel_rfl) (.inl ⟨rfl, fun w' z => ?_⟩) S0 ?_
        · (simp [go_sem, hjI, hj0])
        (try simp only [Act.put, List.getElem_toArray, List.getElem_cons_succ, List.getElem_cons_zero, List.setIfInBounds_toArray, List.set_cons_succ, List.set_cons_zero])
        refine HeadAt.take (i := 4) (.int .u8 (y : Int)) rfl (by kernel_rfl) (.inl ⟨rfl, fun w' z => ?_⟩) S0 ?_
        · (have z0 := z.1.cell (8 + j) (hgc _ _ _ _ _ _ _ _); simp [go_sem, z0])
        refine HeadAt.take (i := 5) (.pointer (some ⟨b8, 1, none⟩)) rfl (by kernel_rfl) (.inl ⟨rfl, fun _ _ => by simp [go_sem]⟩) S0 ?_
        (try simp only [Act.put, List.getElem_toArray, List.getElem_cons_succ, List.getElem_cons_zero, List.setIfInBounds_toArray, List.set_cons_succ, List.set_cons_zero])
        refine HeadAt.take (i := 6) (.int .i64 kt) rfl (by kernel_rfl) (.inl ⟨rfl, fun w' z => ?_⟩) S0 ?_
        · (have z0 := z.2.cell 1 rfl; simp [go_sem, z0])
        refine HeadAt.take (i := 10) (.pointer (some ⟨g, 8, none⟩)) rfl (by kernel_rfl) (.inl ⟨rfl, fun _ _ => by simp [go_sem]⟩) S0 ?_
        (try simp only [Act.put, List.getElem_toArray, List.getElem_cons_succ, List.getElem_cons_zero, List.setIfInBounds_toArray, List.set_cons_succ, List.set_cons_zero])
        refine HeadAt.one (i := 7) rfl (by kernel_rfl) ?_
        generalize hK : Upto _ _ = K0
        (try simp only [Act.put, List.getElem_toArray, List.getElem_cons_succ, List.getElem_cons_zero, List.setIfInBounds_toArray, List.set_cons_succ, List.set_cons_zero])
        have hb1 := below_one (w := Y0) (.cells #[.int .i64 kt] 3)
        have xk : Bx (Y0.alloc (.cells #[.int .i64 kt] 3)) Y0.heap.size (vrow [kt]) 3 := Bx.new Y0 #[.int .i64 kt] 3
        have hIk : Ints (Y0.alloc (.cells #[.int .i64 kt] 3)) (some ⟨Y0.heap.size, 0, none⟩) [kt] := Ints.of_bx xk (by simp) (fun z hz => by rw [List.mem_singleton.1 hz]; exact hk2)
        have HX := hid (And.intro (S0.1.below hb1) (And.intro (S0.2.below hb1) (And.intro (x13.below hb1) (And.intro (hbr.trans (hb1.mono hbr.size)) hIk))))
        clear hb1 xk hIk
        go_wp2_with fail
        subst hK
        obtain ⟨S1, S2, x1', hbr', hIk⟩ := HX.out
        refine ⟨⟨S1, S2⟩, ?_⟩
        (try simp only [Act.put, List.getElem_toArray, List.getElem_cons_succ, List.getElem_cons_zero, List.setIfInBounds_toArray, List.set_cons_succ, List.set_cons_zero])
        have hti1 := hti _ 1 _ hIk
        obtain ⟨bk, hbk⟩ : ∃ b, b = Y0.heap.size := ⟨_, rfl⟩
        rw [← hbk] at hti1 ⊢
        clear HX S0 x13 hbr hti hIk hbk
        generalize Y0.alloc _ = V2 at *
        refine HeadAt.one (i := 8) rfl (by kernel_rfl) ?_
        generalize hK : Upto _ _ = K0
        (try simp only [Act.put, List.getElem_toArray, List.getElem_cons_succ, List.getElem_cons_zero, List.setIfInBounds_toArray, List.set_cons_succ, List.set_cons_zero])
        go_wp2_with fail
        refine hti1.mono ?_
        rintro e V3 ⟨rfl, rfl⟩
        go_wp2_with fail
        subst hK
        refine ⟨⟨S1, S2⟩, ?_⟩
        (try simp only [Act.put, List.getElem_toArray, List.getElem_cons_succ, List.getElem_cons_zero, List.setIfInBounds_toArray, List.set_cons_succ, List.set_cons_zero])
        refine HeadAt.take (i := 9) (.int .u8 (o : Int)) rfl (by kernel_rfl) (.inl ⟨rfl, fun w' z => ?_⟩) (And.intro S1 S2) ?_
        · (simp [go_sem, hor])
        (try simp only [Act.put, List.getElem_toArray, List.getElem_cons_succ, List.getElem_cons_zero, List.setIfInBounds_toArray, List.set_cons_succ, List.set_cons_zero])
        refine HeadAt.take (i := 11) (.pointer (some ⟨g, 8 + j, none⟩)) rfl (by kernel_rfl) (.inl ⟨rfl, fun w' z => ?_⟩) (And.intro S1 S2) ?_
        · (simp [go_sem, hjI, hj0])
        refine HeadAt.done (by kernel_rfl) ?_
        (try simp only [Act.put, List.drop_succ_cons, List.drop_zero, List.getElem_toArray, List.getElem_cons_succ, List.getElem_cons_zero])
        have z0 := S1.cell (8 + j) (hgc _ _ _ _ _ _ _ _)
        have z1 := S1.free (8 + j)
        have xg' := S1.set (8 + j) (.int .u8 (o : Int))
        rw [xx_set _ _ _ _ _ _ _ _ st hj3] at xg'
        have x1'' := x1'.other (a := ⟨g, 8 + j, none⟩) (by show w.heap.size + 1 ≠ g; omega) (.int .u8 (o : Int))
        have hb' := hbr'.setCell (p := ⟨g, 8 + j, none⟩) (by show w.heap.size ≤ g; omega) (.int .u8 (o : Int))
        have HZ := hid (And.intro xg' (And.intro x1'' hb'))
        have HW := hid (show st.set j o = stayF (X.ks.take (k + 1)) by rw [HSK.out, HO.out, HY.out, HM.out])
        clear xg' x1'' hb'
        go_wp2_with fail
        refine NoPanic.normal ?_
        go_wp2
        go_roundw
        case rel => exact ⟨k + 1, _, by omega, by simp, HW, HZ.out⟩
        case measure => simp [intOf]; omega
      · have hkn : k = nk := by omega
        have hqs : q = st := by rw [HQ.out, HS.out, hkn, HNK.out, List.take_length]
        subst hqs
        have hkI : ¬ (k : Int) < (X.ks.length : Int) := by rw [← HNK.out]; omega
        have c0 := xg.cell 0 rfl; have c1 := xg.cell 1 rfl; have c2 := xg.cell 2 rfl; have c3 := xg.cell 3 rfl; have c4 := xg.cell 4 rfl; have c5 := xg.cell 5 rfl; have c6 := xg.cell 6 rfl; have c7 := xg.cell 7 rfl; have c8 := xg.cell 8 rfl; have c9 := xg.cell 9 rfl; have c10 := xg.cell 10 rfl
        have d0 := x1.cell 0 rfl; have d1 := x1.cell 1 rfl; have d2 := x1.cell 2 rfl; have d3 := x1.cell 3 rfl; have d4 := x1.cell 4 rfl; have d5 := x1.cell 5 rfl; have d6 := x1.cell 6 rfl; have d7 := x1.cell 7 rfl; have d8 := x1.cell 8 rfl; have d9 := x1.cell 9 rfl; have d10 := x1.cell 10 rfl
        have f0 := x1.free 0; have f1 := x1.free 1; have f2 := x1.free 2; have f3 := x1.free 3; have f4 := x1.free 4; have f5 := x1.free 5; have f6 := x1.free 6; have f7 := x1.free 7; have f8 := x1.free 8; have f9 := x1.free 9; have f10 := x1.free 10
        have x2 := x1.set11 (.slice ab X.bs.length cb) (.slice ast X.st.length cs) (.slice ae X.er.length ce) (.slice ak X.ks.length ck) (.int .i64 X.ch) (.int .u8 (p.a : Int)) (.int .u8 (p.b : Int)) (.int .u8 (p.c : Int)) (.int .u8 (q.a : Int)) (.int .u8 (q.b : Int)) (.int .u8 (q.c : Int))
        have hb2 := below_put11 hb (b := w.heap.size + 1) (by omega) (.slice ab X.bs.length cb) (.slice ast X.st.length cs) (.slice ae X.er.length ce) (.slice ak X.ks.length ck) (.int .i64 X.ch) (.int .u8 (p.a : Int)) (.int .u8 (p.b : Int)) (.int .u8 (p.c : Int)) (.int .u8 (q.a : Int)) (.int .u8 (q.b : Int)) (.int .u8 (q.c : Int))
        have HX := hid (And.intro x2 hb2)
        clear hkn x2 hb2 x1 xg HQ HS
        go_wp2
        obtain ⟨x2, hb2⟩ := HX.out
        have r0 := x2.cell 0 rfl; have r1 := x2.cell 1 rfl; have r2 := x2.cell 2 rfl; have r3 := x2.cell 3 rfl; have r4 := x2.cell 4 rfl; have r5 := x2.cell 5 rfl; have r6 := x2.cell 6 rfl; have r7 := x2.cell 7 rfl; have r8 := x2.cell 8 rfl; have r9 := x2.cell 9 rfl; have r10 := x2.cell 10 rfl; 
        refine bodyPost_ret (v := .tuple #[.agg #[.slice ab X.bs.length cb, .slice ast X.st.length cs, .slice ae X.er.length ce, .slice ak X.ks.length ck, .int .i64 X.ch, .int .u8 (p.a : Int), .int .u8 (p.b : Int), .int .u8 (p.c : Int), .int .u8 (q.a : Int), .int .u8 (q.b : Int), .int .u8 (q.c : Int)], .int .i64 0]) ?_ rfl ⟨rfl, hb2⟩
        simp [results, Try.results53, go_sem, r0, r1, r2, r3, r4, r5, r6, r7, r8, r9, r10]
end Go.Proofs.Ytipdohpbilabiaa
