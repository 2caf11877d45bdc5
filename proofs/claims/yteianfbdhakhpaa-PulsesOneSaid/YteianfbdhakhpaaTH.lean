import Derived.Test.YteianfbdhakhpaaTG
/-! slices.Repeat of one number. -/
namespace Go.Proofs.Yteianfbdhakhpaa
set_option linter.unusedSimpArgs false
set_option linter.unusedVariables false
open Go Go.RowKit

theorem rep_iz {w : World} {g B k : Nat} {x : Int} (h : w.heap[g]? = some (.cells (rpV x k k).toArray 3 (0, 0))) (hB : B ≤ g) (hk : k ≤ 4) (hx : -9223372036854775808 ≤ x ∧ x ≤ 9223372036854775807) : Iz B w (some ⟨g, 0, none⟩) (List.replicate k x) := by
  have e : (rpV x k k).toArray = vrow (List.replicate k x) := by simp [rpV, vrow]
  rw [e] at h
  refine ⟨Ints.of_bx (show Bx w g _ 3 from h) (by simp; omega) (fun y hy => by rw [(List.mem_replicate.1 hy).2]; exact hx), (fun ad e => by cases e; exact ⟨_, _, h⟩), (fun ad e => by cases e; exact hB)⟩
set_option maxRecDepth 100000 in
set_option maxHeartbeats 4000000 in
theorem repeat_any (b off c : Nat) (x : Int) (k : Nat) (hk : k ≤ 4) (w : World) (hI : Ints w (some ⟨b, off, none⟩) [x]) : Calls Try.prog 80 #[.slice (some ⟨b, off, none⟩) 1 c, .int .i64 (k : Int)] w (CcP (List.replicate k x) w) := by
  have hxr := hI.2.1 x (by simp)
  obtain ⟨x', hb1, hcx, -, -, hgx, -⟩ := hI.atb (k := 0) (by simp)
  obtain rfl : x = x' := by have := hgx.out; simp at this; exact this
  have hcx0 : ClB w b off (.int .i64 x) := ⟨by simpa using hcx, hb1⟩
  have hmu := fun V => mul_one' k hk V
  have hmk := fun V => make_ints k (by omega) V
  have h5 : k = 0 ∨ k = 1 ∨ k = 2 ∨ k = 3 ∨ k = 4 := by omega
  have ewu : IntKind.u64.wrap (k : Int) = (k : Int) := by rcases h5 with rfl | rfl | rfl | rfl | rfl <;> rfl
  have ewi : IntKind.i64.wrap (k : Int) = (k : Int) := IntWalk.i64_in _ (by omega)
  have hkI : (k : Int) ≤ 4 := by omega
  have hk0 : (0 : Int) ≤ (k : Int) := by omega
  have hkn : ¬ (k : Int) < 0 := by omega
  have hkb : ¬ (k : Int) > 9223372036854775807 := by omega
  have HX := hid hxr
  clear h5 hcx hgx hb1 hxr
  go_enter Try.func80, Try.ntmps80
  go_wp2_with fail
  refine (hmu _).mono ?_
  rintro e V ⟨rfl, hb⟩
  have hcV := hcx0.below hb
  clear hmu hcx0
  obtain ⟨V1, hV1⟩ : ∃ V1, V1 = V.alloc (.cells (vrow (List.replicate k 0)) 3) := ⟨_, rfl⟩
  have hba := below_one (w := V) (.cells (vrow (List.replicate k 0)) 3)
  have hg := Bx.new V (vrow (List.replicate k 0)) 3
  rw [← hV1] at hba hg
  have hmkV := hmk V
  rw [← hV1] at hmkV
  have hc1 := hcV.below hba
  have hb1 := hb.trans (hba.mono hb.size)
  obtain ⟨g, hg'⟩ : ∃ g, g = V.heap.size := ⟨_, rfl⟩
  have hgw : w.heap.size ≤ g := by rw [hg']; exact hb.size
  rw [← hg'] at hg hmkV
  have hg0 : V1.heap[g]? = some (.cells (rpV x 0 0 ++ List.replicate k (Value.int .i64 0)).toArray 3 (0, 0)) := by
    have : vrow (List.replicate k 0) = (rpV x 0 0 ++ List.replicate k (Value.int .i64 0)).toArray := by simp [rpV, vrow]
    rw [← this]; exact hg
  have hg1 : V1.heap[g]? = some (.cells (rpV x k 0).toArray 3 (0, 0)) := by simpa [rpV] using hg0
  have HG := hid hg1
  have hgl := hg.lt
  clear hba hg hV1 hmk hg0 hg1 hcV hg' hI hb
  obtain ⟨q0, hq0⟩ : ∃ q0, q0 = min 1 k := ⟨_, rfl⟩
  have hmin : Nat.min 1 k = q0 := by rw [hq0]
  have HQ0 := hid hq0
  clear hq0
  have hpos : ∀ j v, (List.replicate q0 (Value.int .i64 x))[j]? = some v → V1.cell? ((⟨b, off, none⟩ : Addr).add j) = some v := fun j v hj => by
    have hjl := (List.getElem?_eq_some_iff.1 hj).1
    rw [List.length_replicate] at hjl
    have hj0 : j = 0 := by have := HQ0.out; omega
    subst hj0
    rw [List.getElem?_replicate, if_pos hjl] at hj
    injection hj with e
    rw [← e]
    exact hc1.1
  have HPOS := hid hpos
  have hcl : (List.replicate q0 (Value.int IntKind.i64 x)).length = Nat.min 1 k := by rw [List.length_replicate]; exact hmin.symm
  have hfit : 0 + (List.replicate q0 (Value.int IntKind.i64 x)).length ≤ (rpV x k 0).length := by rw [List.length_replicate, rpV_len x (Nat.zero_le _)]; have := HQ0.out; omega
  have HCF := hid (And.intro hcl hfit)
  have hone : ∀ q : Nat, ∀ v ∈ List.replicate q (Value.int IntKind.i64 x), v.oneCell' = true := fun q v hv => by rw [(List.mem_replicate.1 hv).2]; rfl
  have hrl : (List.replicate q0 (Value.int IntKind.i64 x)).length = q0 := List.length_replicate
  clear hpos hcl hfit hmin
  go_wp2_with (refine wpList_copy_splice rfl (.tmp 31) (.tmp 32) 22 22 rfl 3 under22 size3 (some ⟨g, 0, none⟩) (some ⟨b, off, none⟩) k k 1 c rfl rfl g 0 (rpV x k 0) 3 HG.out (List.replicate q0 (.int .i64 x)) HCF.out.1 (fun _ => ⟨rfl, _, rfl, HPOS.out⟩) HCF.out.2 (hone q0) w.heap.size w hb1 hgw ?_; intro V2 hg2 hb2)
  have hg3 : V2.heap[g]? = some (.cells (rpV x k q0).toArray 3 (0, 0)) := by
    have := hg2.out
    have e := rpV_splice x (k := k) (q := 0) (m := q0) (by have := HQ0.out; omega)
    rw [Nat.zero_add] at e
    rw [e] at this; exact this
  have HG3 := hid hg3
  clear hg2 hg3 HG hc1 hb1 hmkV hgl hrl
  go_wp2
  go_loopw [8] (fun v8 wr => ∃ q : Nat, q ≤ k ∧ (0 < k → 0 < q) ∧ v8 = .int .i64 (q : Int) ∧ Hid (wr.heap[g]? = some (.cells (rpV x k q).toArray 3 (0, 0))) ∧ Below w.heap.size w wr) (fun v8 _ => k - (intOf v8).toNat)
  case atStart => exact ⟨q0, by have := HQ0.out; omega, fun h => by have := HQ0.out; omega, by simp, HG3, hb2⟩
  case round =>
    clear hb2 HG3 HQ0
    obtain ⟨q, hq, hq1, rfl, HG, hb⟩ := hrel
    by_cases hlt : q < k
    · have hqI : (q : Int) < (k : Int) := by omega
      have hq0 : (0 : Int) ≤ (q : Int) := by omega
      have hqle : (q : Int) ≤ (k : Int) := by omega
      have hqne : ¬ k = q := by omega
      have hkz : ¬ k = 0 := by omega
      obtain ⟨d, hd⟩ : ∃ d, d = k - q := ⟨_, rfl⟩
      have htn : ((k : Int) - (q : Int)).toNat = d := by omega
      obtain ⟨m, hm⟩ : ∃ m, m = min q d := ⟨_, rfl⟩
      obtain ⟨q2, hq2⟩ : ∃ q2, q2 = q + m := ⟨_, rfl⟩
      have ewq : IntKind.i64.wrap ((q : Int) + (m : Int)) = (q2 : Int) := by rw [IntWalk.i64_in _ (by omega)]; omega
      have hmq : 0 < m := by have := hq1 (by omega); omega
      have HM := hid (And.intro hd (And.intro hm (And.intro hq2 (And.intro hmq (hq1 (by omega))))))
      clear hd hm hq2 hmq hq1
      go_upto_region 9 with fail
      have S0 : wr.heap[g]? = some (.cells (rpV x k q).toArray 3 (0, 0)) ∧ Below w.heap.size w wr.drew := ⟨HG.out, hb.trans ((Below.refl wr.heap.size wr).drew.mono hb.size)⟩
      refine wp_region_head 9 (fun _ => True) (by kernel_rfl) rfl ?_
      replace S0 : wr.drew.heap[g]? = some (.cells (rpV x k q).toArray 3 (0, 0)) ∧ Below w.heap.size w wr.drew := S0
      generalize wr.drew = Y0 at *
      have HS := hid S0
      clear S0 hb HG
      have S0 : True := trivial
      refine HeadAt.take (i := 0) (.int .i64 (q : Int)) rfl (by kernel_rfl) (.inl ⟨rfl, fun _ _ => by simp [go_sem]⟩) S0 ?_
      (try simp only [Act.put, List.getElem_toArray, List.getElem_cons_succ, List.getElem_cons_zero, List.setIfInBounds_toArray, List.set_cons_succ, List.set_cons_zero])
      refine HeadAt.take (i := 1) (.slice (some ⟨g, 0, none⟩) k k) rfl (by kernel_rfl) (.inl ⟨rfl, fun _ _ => by simp [go_sem]⟩) S0 ?_
      (try simp only [Act.put, List.getElem_toArray, List.getElem_cons_succ, List.getElem_cons_zero, List.setIfInBounds_toArray, List.set_cons_succ, List.set_cons_zero])
      refine HeadAt.take (i := 2) (.int .i64 (q : Int)) rfl (by kernel_rfl) (.inl ⟨rfl, fun _ _ => by simp [go_sem]⟩) S0 ?_
      (try simp only [Act.put, List.getElem_toArray, List.getElem_cons_succ, List.getElem_cons_zero, List.setIfInBounds_toArray, List.set_cons_succ, List.set_cons_zero])
      refine HeadAt.take (i := 3) (.slice (some ⟨g, q, none⟩) d d) rfl (by kernel_rfl) (.inl ⟨rfl, fun w' z => ?_⟩) S0 ?_
      · (simp [go_sem, hq0, hqle, hqne, htn]; exact HM.out.1.symm)
      (try simp only [Act.put, List.getElem_toArray, List.getElem_cons_succ, List.getElem_cons_zero, List.setIfInBounds_toArray, List.set_cons_succ, List.set_cons_zero])
      refine HeadAt.take (i := 4) (.slice (some ⟨g, 0, none⟩) k k) rfl (by kernel_rfl) (.inl ⟨rfl, fun _ _ => by simp [go_sem]⟩) S0 ?_
      (try simp only [Act.put, List.getElem_toArray, List.getElem_cons_succ, List.getElem_cons_zero, List.setIfInBounds_toArray, List.set_cons_succ, List.set_cons_zero])
      refine HeadAt.take (i := 5) (.int .i64 (q : Int)) rfl (by kernel_rfl) (.inl ⟨rfl, fun _ _ => by simp [go_sem]⟩) S0 ?_
      (try simp only [Act.put, List.getElem_toArray, List.getElem_cons_succ, List.getElem_cons_zero, List.setIfInBounds_toArray, List.set_cons_succ, List.set_cons_zero])
      refine HeadAt.take (i := 6) (.slice (some ⟨g, 0, none⟩) q k) rfl (by kernel_rfl) (.inl ⟨rfl, fun w' z => ?_⟩) S0 ?_
      · (simp [go_sem, hq0, hqle, hkz])
      (try simp only [Act.put, List.getElem_toArray, List.getElem_cons_succ, List.getElem_cons_zero, List.setIfInBounds_toArray, List.set_cons_succ, List.set_cons_zero])
      have hpos : ∀ j v, (List.replicate m (Value.int .i64 x))[j]? = some v → Y0.cell? ((⟨g, 0, none⟩ : Addr).add j) = some v := fun j v hj => by
        have hjm := (List.getElem?_eq_some_iff.1 hj).1
        rw [List.length_replicate] at hjm
        rw [List.getElem?_replicate, if_pos hjm] at hj
        injection hj with e
        have h1 := HM.out.1
        have h2 := HM.out.2.1
        have hc := (show Bx Y0 g _ 3 from HS.out.1).cell j (v := v) (by rw [← e]; simpa using rpV_at x (k := k) (show j < q by omega))
        have e1 : (⟨g, 0, none⟩ : Addr).add j = ⟨g, j, none⟩ := by unfold Addr.add; split <;> simp_all
        rw [e1]; exact hc
      have HPOS2 := hid hpos
      have hcl : (List.replicate m (Value.int IntKind.i64 x)).length = Nat.min q d := by rw [List.length_replicate]; exact HM.out.2.1
      have hfit : q + (List.replicate m (Value.int IntKind.i64 x)).length ≤ (rpV x k q).length := by rw [List.length_replicate, rpV_len x hq]; have h1 := HM.out.1; have h2 := HM.out.2.1; omega
      have HCF2 := hid (And.intro hcl hfit)
      clear hpos hcl hfit
      refine HeadAt.one (i := 7) rfl (by kernel_rfl) ?_
      generalize hK : Upto _ _ = K0
      (try simp only [Act.put, List.getElem_toArray, List.getElem_cons_succ, List.getElem_cons_zero, List.setIfInBounds_toArray, List.set_cons_succ, List.set_cons_zero])
      go_wp2_with (refine wpList_copy_splice rfl (.tmp 41) (.tmp 44) 22 22 rfl 3 under22 size3 (some ⟨g, q, none⟩) (some ⟨g, 0, none⟩) d d q k rfl rfl g q (rpV x k q) 3 HS.out.1 (List.replicate m (.int .i64 x)) HCF2.out.1 (fun _ => ⟨rfl, _, rfl, HPOS2.out⟩) HCF2.out.2 (hone m) w.heap.size w HS.out.2 hgw ?_; intro V7 hg7 hb7)
      have hgl : (List.replicate m (Value.int .i64 x)).length = m := List.length_replicate
      have HG7 := hid (show V7.heap[g]? = some (.cells (rpV x k q2).toArray 3 (0, 0)) by
        have := hg7.out
        rw [rpV_splice x (by have h1 := HM.out.1; have h2 := HM.out.2.1; omega), ← HM.out.2.2.1] at this
        exact this)
      clear hg7 HS
      go_wp2_with fail
      subst hK
      refine ⟨S0, ?_⟩
      (try simp only [Act.put, List.getElem_toArray, List.getElem_cons_succ, List.getElem_cons_zero, List.setIfInBounds_toArray, List.set_cons_succ, List.set_cons_zero])
      refine HeadAt.take (i := 8) (.int .i64 (q2 : Int)) rfl (by kernel_rfl) (.inl ⟨rfl, fun w' z => ?_⟩) S0 ?_
      · (simp [go_sem, ewq])
      (try simp only [Act.put, List.getElem_toArray, List.getElem_cons_succ, List.getElem_cons_zero, List.setIfInBounds_toArray, List.set_cons_succ, List.set_cons_zero])
      refine HeadAt.done (by kernel_rfl) ?_
      (try simp only [Act.put, List.drop_succ_cons, List.drop_zero, List.getElem_toArray, List.getElem_cons_succ, List.getElem_cons_zero])
      go_wp2_with fail
      refine NoPanic.normal ?_
      have hq2k : q2 ≤ k := by have h1 := HM.out.1; have h2 := HM.out.2.1; have h3 := HM.out.2.2.1; omega
      have hq2l : q < q2 := by have h1 := HM.out.2.2.1; have h2 := HM.out.2.2.2.1; omega
      clear HM
      go_wp2
      go_roundw
      case rel => exact ⟨q2, hq2k, fun _ => by omega, rfl, HG7, hb7⟩
      case measure => simp [intOf]; omega
    · have hqk : q = k := by omega
      have hz := rep_iz (B := w.heap.size) (by have := HG.out; rw [hqk] at this; exact this) hgw hk HX.out
      have HZ := hid (show CcP (List.replicate k x) w (.returned (.slice (some ⟨g, 0, none⟩) k k)) wr from ⟨hb, some ⟨g, 0, none⟩, k, by rw [List.length_replicate], hz⟩)
      clear hqk hz
      go_wp2
      go_ret
      exact HZ.out
end Go.Proofs.Yteianfbdhakhpaa
