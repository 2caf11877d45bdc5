import Derived.Test.YtknaljghpfeikaaT40
import Derived.Test.YtknaljghpfeikaaM7
namespace Go.Proofs.Ytknaljghpfeikaa
open Go.RowKit

theorem seq_at {T : Tr} {L : List (Int × Int)} {b : Int} (h : Seq1 T L b) {j : Nat} {q r : Int × Int} (h1 : L[j]? = some q) (h2 : L[j + 1]? = some r) : q.2 + secs T q.1.toNat ≤ r.2 := by
  have hj : j < L.length := by
    rcases Nat.lt_or_ge j L.length with h | h
    · exact h
    · rw [List.getElem?_eq_none h] at h1; cases h1
  have hj1 : j + 1 < L.length := by
    rcases Nat.lt_or_ge (j + 1) L.length with h | h
    · exact h
    · rw [List.getElem?_eq_none h] at h2; cases h2
  have e : L = L.take j ++ q :: r :: L.drop (j + 2) := by
    have e1 : L.drop j = q :: L.drop (j + 1) := by
      rw [List.drop_eq_getElem_cons hj]
      rw [List.getElem?_eq_getElem hj] at h1
      injection h1 with h1
      rw [h1]
    have e2 : L.drop (j + 1) = r :: L.drop (j + 2) := by
      rw [List.drop_eq_getElem_cons hj1]
      rw [List.getElem?_eq_getElem hj1] at h2
      injection h2 with h2
      rw [h2]
    rw [← e2, ← e1, List.take_append_drop]
  exact (h _ q _ e).1 r _ rfl
/-- What the region reads. -/
structure SnS (b0 : Nat) (vs : Array Value) (au at' : Addr) (u t : Int) (l : List (Addr × Value)) (w : World) : Prop where
  x : Bx w b0 vs 25
  u : w.cell? au = some (.int .i64 u)
  t : w.cell? at' = some (.int .i64 t)
  e : ∀ p ∈ l, w.cell? p.1 = some p.2
theorem SnS.below {b0 : Nat} {vs : Array Value} {au at' : Addr} {u t : Int} {l : List (Addr × Value)} {w w' : World} (h : SnS b0 vs au at' u t l w) (hb : Below w.heap.size w w') : SnS b0 vs au at' u t l w' :=
  ⟨h.x.below hb, Below.keep hb h.u, Below.keep hb h.t, fun p hp => Below.keep hb (h.e p hp)⟩
set_option maxRecDepth 100000 in
set_option maxHeartbeats 8000000 in
/-- The statement's look at the plays finds nothing wrong. -/
theorem sane_ok (al : Option Addr) (cl : Nat) (L : List (Int × Int)) (ar ap : Option Addr) (cr cp : Nat) (rs ps : List (Int × Int)) (p0 way step : Int) (w : World) (hR : Prs w ar rs) (hP : Prs w ap ps) (hL : Prs w al L) (T : Tr) (hT : T.rcs = rs) (h6 : rs.length ≤ 6) (hlen : L.length ≤ ps.length) (hp12 : ps.length ≤ 12) (hd : ∀ q ∈ L, 0 ≤ q.1 ∧ q.1 < 2 * (rs.length : Int) ∧ 0 ≤ q.2 ∧ q.2 ≤ 1000000) (bb : Int) (hs : Seq1 T L bb)
    (hsecs : ∀ k, k < 2 * rs.length → 0 ≤ secs T k ∧ secs T k ≤ 999) :
    Calls Try.prog 19 #[.agg #[.slice ar rs.length cr, .int .i64 p0, .int .i64 way, .int .i64 step, .slice ap ps.length cp], .slice al L.length cl] w fun e w' => e = .returned (.bool true) ∧ Below w.heap.size w w' := by
  obtain ⟨n, hn⟩ : ∃ n, n = L.length := ⟨_, rfl⟩
  rw [← hn] at hlen ⊢
  have HN := hid hn; have HD := hid hd; have HSQ := hid hs; have HSE := hid hsecs
  clear hn hd hs hsecs
  have hnI : (n : Int) ≤ (ps.length : Int) := by omega
  have hmI : (ps.length : Int) ≤ 12 := by omega
  have hdd : decide ((ps.length : Int) < (n : Int)) = false := by simp; omega
  have hdd2 : decide (ps.length < n) = false := by simp; omega
  obtain ⟨W, hW, hb, hs, x0⟩ := boxes1 w #[.slice ar rs.length cr, .int .i64 p0, .int .i64 way, .int .i64 step, .slice ap ps.length cp] 25
  clear hs
  have c0 := x0.cell 0 rfl; have c1 := x0.cell 1 rfl; have c2 := x0.cell 2 rfl; have c3 := x0.cell 3 rfl; have c4 := x0.cell 4 rfl
  go_enter Try.func19, Try.ntmps19
  go_wp2
  clear c0 c1 c2 c3 c4 hdd hdd2
  go_loopw [4, 5] (fun v4 v5 wr => ∃ k : Nat, k ≤ n ∧ v4 = .bool false ∧ v5 = .int .i64 (k : Int) ∧ Below W.heap.size W wr) (fun _ v5 _ => n - (intOf v5).toNat)
  case atStart => exact ⟨0, Nat.zero_le _, rfl, rfl, Below.refl _ _⟩
  case round =>
    obtain ⟨k, hk, rfl, rfl, hb1⟩ := hrel
    have hbr := hb.trans (hb1.mono hb.size)
    have x1 := x0.below hb1
    by_cases hlt : k < n
    · have hkI : (k : Int) < (n : Int) := by omega
      have hk0 : (0 : Int) ≤ (k : Int) := by omega
      obtain ⟨b, off, u, t, rfl, _, g0, g1, _, _, hx, _⟩ := hL.at (show k < L.length by rw [← HN.out]; exact hlt)
      have hut := HD.out (u, t) (List.mem_of_getElem? hx.out)
      dsimp only at hut
      have hsd := fun W => isSide_29 ar ap cr cp rs ps p0 way step u W (by omega)
      rw [show inR 0 u (2 * (rs.length : Int) - 1) = true from inR_iff.2 (by omega)] at hsd
      have htd0 : decide (t < 0) = false := by simp; omega
      have htd1 : decide ((1000000 : Int) < t) = false := by simp; omega
      go_upto_region 6 with fail
      have hbd := (Below.refl wr.heap.size wr).drew
      have hbr2 := hbr.trans (hbd.mono hbr.size)
      have x2 := x1.below hbd
      replace hb1 := hb1.trans (hbd.mono hb1.size)
      clear hbd x1
      by_cases hk1 : k = 0
      · refine wp_region_head 50 (SnS w.heap.size #[.slice ar rs.length cr, .int .i64 p0, .int .i64 way, .int .i64 step, .slice ap ps.length cp] ⟨b, off + k * 2, none⟩ ⟨b, off + k * 2 + 1, none⟩ u t []) (by kernel_rfl) rfl ?_
        generalize wr.drew = Y0 at *
        have S0 : SnS w.heap.size #[.slice ar rs.length cr, .int .i64 p0, .int .i64 way, .int .i64 step, .slice ap ps.length cp] ⟨b, off + k * 2, none⟩ ⟨b, off + k * 2 + 1, none⟩ u t [] Y0 := ⟨x2, Below.keep hbr2 g0, Below.keep hbr2 g1, fun p hp => by cases hp⟩
        have hkb : decide ((0 : Int) < (k : Int)) = false := by rw [hk1]; rfl
        have hkbN : decide (0 < k) = false := by rw [hk1]; rfl
        clear hk1
        refine HeadAt.take (i := 0) (.agg #[.slice ar rs.length cr, .int .i64 p0, .int .i64 way, .int .i64 step, .slice ap ps.length cp]) rfl (by kernel_rfl) (.inl ⟨rfl, fun w' z => ?_⟩) S0 ?_
        · (have z0 := z.x.cell 0 rfl; have z1 := z.x.cell 1 rfl; have z2 := z.x.cell 2 rfl; have z3 := z.x.cell 3 rfl; have z4 := z.x.cell 4 rfl; simp [go_sem, z0, z1, z2, z3, z4])
        refine HeadAt.take (i := 1) (.slice (some ⟨b, off, none⟩) n cl) rfl (by kernel_rfl) (.inl ⟨rfl, fun _ _ => by simp [go_sem]⟩) S0 ?_
        refine HeadAt.take (i := 2) (.int .i64 (k : Int)) rfl (by kernel_rfl) (.inl ⟨rfl, fun _ _ => by simp [go_sem]⟩) S0 ?_
        simp only [Act.put, List.getElem_toArray, List.getElem_cons_succ, List.getElem_cons_zero, List.setIfInBounds_toArray, List.set_cons_succ, List.set_cons_zero]
        refine HeadAt.take (i := 3) (.pointer (some ⟨b, off + k * 2, none⟩)) rfl (by kernel_rfl) (.inl ⟨rfl, fun w' z => ?_⟩) S0 ?_
        · (simp [go_sem, hkI, hk0])
        refine HeadAt.take (i := 4) (.pointer (some ⟨b, off + k * 2, none⟩)) rfl (by kernel_rfl) (.inl ⟨rfl, fun _ _ => by simp [go_sem]⟩) S0 ?_
        refine HeadAt.take (i := 5) (.int .i64 u) rfl (by kernel_rfl) (.inl ⟨rfl, fun w' z => ?_⟩) S0 ?_
        · (simp [go_sem, z.u])
        refine HeadAt.one (i := 6) rfl (by kernel_rfl) ?_
        generalize hK : Upto _ _ = K0
        (try simp only [Act.put, List.getElem_toArray, List.getElem_cons_succ, List.getElem_cons_zero, List.setIfInBounds_toArray, List.set_cons_succ, List.set_cons_zero])
        go_wp2_with fail
        refine (hsd _).mono ?_
        rintro e Y1 ⟨rfl, hb2⟩
        replace S0 := S0.below hb2
        replace hb1 := hb1.trans (hb2.mono hb1.size)
        clear hb2
        go_wp2_with fail
        subst hK
        refine ⟨S0, ?_⟩
        refine HeadAt.take (i := 7) (.bool false) rfl (by kernel_rfl) (.inl ⟨rfl, fun _ _ => by simp [go_sem]⟩) S0 ?_
        refine HeadAt.take (i := 8) (.bool false) rfl (by kernel_rfl) (.inl ⟨rfl, fun _ _ => by simp [go_sem]⟩) S0 ?_
        simp only [Act.put, List.getElem_toArray, List.getElem_cons_succ, List.getElem_cons_zero, List.setIfInBounds_toArray, List.set_cons_succ, List.set_cons_zero]
        refine HeadAt.take (i := 9) (.slice (some ⟨b, off, none⟩) n cl) rfl (by kernel_rfl) (.inl ⟨rfl, fun _ _ => by simp [go_sem]⟩) S0 ?_
        refine HeadAt.take (i := 10) (.int .i64 (k : Int)) rfl (by kernel_rfl) (.inl ⟨rfl, fun _ _ => by simp [go_sem]⟩) S0 ?_
        refine HeadAt.take (i := 11) (.pointer (some ⟨b, off + k * 2, none⟩)) rfl (by kernel_rfl) (.inl ⟨rfl, fun w' z => ?_⟩) S0 ?_
        · (simp [go_sem, hkI, hk0])
        simp only [Act.put, List.getElem_toArray, List.getElem_cons_succ, List.getElem_cons_zero, List.setIfInBounds_toArray, List.set_cons_succ, List.set_cons_zero]
        refine HeadAt.take (i := 12) (.pointer (some ⟨b, off + k * 2 + 1, none⟩)) rfl (by kernel_rfl) (.inl ⟨rfl, fun _ _ => by simp [go_sem]⟩) S0 ?_
        refine HeadAt.take (i := 13) (.int .i64 t) rfl (by kernel_rfl) (.inl ⟨rfl, fun w' z => ?_⟩) S0 ?_
        · (simp [go_sem, z.t])
        refine HeadAt.take (i := 14) (.bool false) rfl (by kernel_rfl) (.inl ⟨rfl, fun w' z => ?_⟩) S0 ?_
        · (simp [go_sem, htd0])
        simp only [Act.put, List.getElem_toArray, List.getElem_cons_succ, List.getElem_cons_zero, List.setIfInBounds_toArray, List.set_cons_succ, List.set_cons_zero]
        refine HeadAt.take (i := 15) (.bool false) rfl (by kernel_rfl) (.inl ⟨rfl, fun _ _ => by simp [go_sem]⟩) S0 ?_
        refine HeadAt.take (i := 16) (.bool false) rfl (by kernel_rfl) (.inl ⟨rfl, fun _ _ => by simp [go_sem]⟩) S0 ?_
        refine HeadAt.take (i := 17) (.slice (some ⟨b, off, none⟩) n cl) rfl (by kernel_rfl) (.inl ⟨rfl, fun _ _ => by simp [go_sem]⟩) S0 ?_
        simp only [Act.put, List.getElem_toArray, List.getElem_cons_succ, List.getElem_cons_zero, List.setIfInBounds_toArray, List.set_cons_succ, List.set_cons_zero]
        refine HeadAt.take (i := 18) (.int .i64 (k : Int)) rfl (by kernel_rfl) (.inl ⟨rfl, fun _ _ => by simp [go_sem]⟩) S0 ?_
        refine HeadAt.take (i := 19) (.pointer (some ⟨b, off + k * 2, none⟩)) rfl (by kernel_rfl) (.inl ⟨rfl, fun w' z => ?_⟩) S0 ?_
        · (simp [go_sem, hkI, hk0])
        refine HeadAt.take (i := 20) (.pointer (some ⟨b, off + k * 2 + 1, none⟩)) rfl (by kernel_rfl) (.inl ⟨rfl, fun _ _ => by simp [go_sem]⟩) S0 ?_
        simp only [Act.put, List.getElem_toArray, List.getElem_cons_succ, List.getElem_cons_zero, List.setIfInBounds_toArray, List.set_cons_succ, List.set_cons_zero]
        refine HeadAt.take (i := 21) (.int .i64 t) rfl (by kernel_rfl) (.inl ⟨rfl, fun w' z => ?_⟩) S0 ?_
        · (simp [go_sem, z.t])
        refine HeadAt.take (i := 22) (.bool false) rfl (by kernel_rfl) (.inl ⟨rfl, fun w' z => ?_⟩) S0 ?_
        · (simp [go_sem, htd1])
        refine HeadAt.take (i := 23) (.bool false) rfl (by kernel_rfl) (.inl ⟨rfl, fun _ _ => by simp [go_sem]⟩) S0 ?_
        simp only [Act.put, List.getElem_toArray, List.getElem_cons_succ, List.getElem_cons_zero, List.setIfInBounds_toArray, List.set_cons_succ, List.set_cons_zero]
        refine HeadAt.take (i := 24) (.bool false) rfl (by kernel_rfl) (.inl ⟨rfl, fun _ _ => by simp [go_sem]⟩) S0 ?_
        refine HeadAt.take (i := 25) (.int .i64 (k : Int)) rfl (by kernel_rfl) (.inl ⟨rfl, fun _ _ => by simp [go_sem]⟩) S0 ?_
        refine HeadAt.take (i := 26) (.bool false) rfl (by kernel_rfl) (.inl ⟨rfl, fun w' z => ?_⟩) S0 ?_
        · (simp [go_sem, hkbN])
        refine HeadAt.take (i := 27) (.bool false) rfl (by kernel_rfl) (.inl ⟨rfl, fun _ _ => by simp [go_sem]⟩) S0 ?_
        simp only [Act.put, List.getElem_toArray, List.getElem_cons_succ, List.getElem_cons_zero, List.setIfInBounds_toArray, List.set_cons_succ, List.set_cons_zero]
        refine HeadAt.take (i := 28) undef rfl (by kernel_rfl) (.inr ⟨by kernel_rfl, rfl⟩) S0 ?_
        simp only [Act.put, List.getElem_toArray, List.getElem_cons_succ, List.getElem_cons_zero, List.setIfInBounds_toArray, List.set_cons_succ, List.set_cons_zero]
        refine HeadAt.take (i := 29) undef rfl (by kernel_rfl) (.inr ⟨by kernel_rfl, rfl⟩) S0 ?_
        simp only [Act.put, List.getElem_toArray, List.getElem_cons_succ, List.getElem_cons_zero, List.setIfInBounds_toArray, List.set_cons_succ, List.set_cons_zero]
        refine HeadAt.take (i := 30) undef rfl (by kernel_rfl) (.inr ⟨by kernel_rfl, rfl⟩) S0 ?_
        simp only [Act.put, List.getElem_toArray, List.getElem_cons_succ, List.getElem_cons_zero, List.setIfInBounds_toArray, List.set_cons_succ, List.set_cons_zero]
        refine HeadAt.take (i := 31) undef rfl (by kernel_rfl) (.inr ⟨by kernel_rfl, rfl⟩) S0 ?_
        simp only [Act.put, List.getElem_toArray, List.getElem_cons_succ, List.getElem_cons_zero, List.setIfInBounds_toArray, List.set_cons_succ, List.set_cons_zero]
        refine HeadAt.take (i := 32) undef rfl (by kernel_rfl) (.inr ⟨by kernel_rfl, rfl⟩) S0 ?_
        simp only [Act.put, List.getElem_toArray, List.getElem_cons_succ, List.getElem_cons_zero, List.setIfInBounds_toArray, List.set_cons_succ, List.set_cons_zero]
        refine HeadAt.take (i := 33) undef rfl (by kernel_rfl) (.inr ⟨by kernel_rfl, rfl⟩) S0 ?_
        simp only [Act.put, List.getElem_toArray, List.getElem_cons_succ, List.getElem_cons_zero, List.setIfInBounds_toArray, List.set_cons_succ, List.set_cons_zero]
        refine HeadAt.take (i := 34) undef rfl (by kernel_rfl) (.inr ⟨by kernel_rfl, rfl⟩) S0 ?_
        simp only [Act.put, List.getElem_toArray, List.getElem_cons_succ, List.getElem_cons_zero, List.setIfInBounds_toArray, List.set_cons_succ, List.set_cons_zero]
        refine HeadAt.take (i := 35) undef rfl (by kernel_rfl) (.inr ⟨by kernel_rfl, rfl⟩) S0 ?_
        simp only [Act.put, List.getElem_toArray, List.getElem_cons_succ, List.getElem_cons_zero, List.setIfInBounds_toArray, List.set_cons_succ, List.set_cons_zero]
        refine HeadAt.take (i := 36) undef rfl (by kernel_rfl) (.inr ⟨by kernel_rfl, rfl⟩) S0 ?_
        simp only [Act.put, List.getElem_toArray, List.getElem_cons_succ, List.getElem_cons_zero, List.setIfInBounds_toArray, List.set_cons_succ, List.set_cons_zero]
        refine HeadAt.take (i := 37) undef rfl (by kernel_rfl) (.inr ⟨by kernel_rfl, rfl⟩) S0 ?_
        simp only [Act.put, List.getElem_toArray, List.getElem_cons_succ, List.getElem_cons_zero, List.setIfInBounds_toArray, List.set_cons_succ, List.set_cons_zero]
        refine HeadAt.take (i := 38) undef rfl (by kernel_rfl) (.inr ⟨by kernel_rfl, rfl⟩) S0 ?_
        simp only [Act.put, List.getElem_toArray, List.getElem_cons_succ, List.getElem_cons_zero, List.setIfInBounds_toArray, List.set_cons_succ, List.set_cons_zero]
        refine HeadAt.take (i := 39) undef rfl (by kernel_rfl) (.inr ⟨by kernel_rfl, rfl⟩) S0 ?_
        simp only [Act.put, List.getElem_toArray, List.getElem_cons_succ, List.getElem_cons_zero, List.setIfInBounds_toArray, List.set_cons_succ, List.set_cons_zero]
        refine HeadAt.take (i := 40) undef rfl (by kernel_rfl) (.inr ⟨by kernel_rfl, rfl⟩) S0 ?_
        simp only [Act.put, List.getElem_toArray, List.getElem_cons_succ, List.getElem_cons_zero, List.setIfInBounds_toArray, List.set_cons_succ, List.set_cons_zero]
        refine HeadAt.take (i := 41) undef rfl (by kernel_rfl) (.inr ⟨by kernel_rfl, rfl⟩) S0 ?_
        simp only [Act.put, List.getElem_toArray, List.getElem_cons_succ, List.getElem_cons_zero, List.setIfInBounds_toArray, List.set_cons_succ, List.set_cons_zero]
        refine HeadAt.take (i := 42) undef rfl (by kernel_rfl) (.inr ⟨by kernel_rfl, rfl⟩) S0 ?_
        simp only [Act.put, List.getElem_toArray, List.getElem_cons_succ, List.getElem_cons_zero, List.setIfInBounds_toArray, List.set_cons_succ, List.set_cons_zero]
        refine HeadAt.take (i := 43) undef rfl (by kernel_rfl) (.inr ⟨by kernel_rfl, rfl⟩) S0 ?_
        simp only [Act.put, List.getElem_toArray, List.getElem_cons_succ, List.getElem_cons_zero, List.setIfInBounds_toArray, List.set_cons_succ, List.set_cons_zero]
        refine HeadAt.take (i := 44) undef rfl (by kernel_rfl) (.inr ⟨by kernel_rfl, rfl⟩) S0 ?_
        simp only [Act.put, List.getElem_toArray, List.getElem_cons_succ, List.getElem_cons_zero, List.setIfInBounds_toArray, List.set_cons_succ, List.set_cons_zero]
        refine HeadAt.take (i := 45) undef rfl (by kernel_rfl) (.inr ⟨by kernel_rfl, rfl⟩) S0 ?_
        simp only [Act.put, List.getElem_toArray, List.getElem_cons_succ, List.getElem_cons_zero, List.setIfInBounds_toArray, List.set_cons_succ, List.set_cons_zero]
        refine HeadAt.take (i := 46) undef rfl (by kernel_rfl) (.inr ⟨by kernel_rfl, rfl⟩) S0 ?_
        simp only [Act.put, List.getElem_toArray, List.getElem_cons_succ, List.getElem_cons_zero, List.setIfInBounds_toArray, List.set_cons_succ, List.set_cons_zero]
        refine HeadAt.take (i := 47) undef rfl (by kernel_rfl) (.inr ⟨by kernel_rfl, rfl⟩) S0 ?_
        simp only [Act.put, List.getElem_toArray, List.getElem_cons_succ, List.getElem_cons_zero, List.setIfInBounds_toArray, List.set_cons_succ, List.set_cons_zero]
        refine HeadAt.take (i := 48) undef rfl (by kernel_rfl) (.inr ⟨by kernel_rfl, rfl⟩) S0 ?_
        simp only [Act.put, List.getElem_toArray, List.getElem_cons_succ, List.getElem_cons_zero, List.setIfInBounds_toArray, List.set_cons_succ, List.set_cons_zero]
        refine HeadAt.take (i := 49) (.bool false) rfl (by kernel_rfl) (.inl ⟨rfl, fun _ _ => by simp [go_sem]⟩) S0 ?_
        refine HeadAt.done (by kernel_rfl) ?_
        (try simp only [Act.put, List.drop_succ_cons, List.drop_zero, List.getElem_toArray, List.getElem_cons_succ, List.getElem_cons_zero])
        clear S0
        go_wp2_with fail
        refine NoPanic.normal ?_
        go_wp2_with fail
        go_roundw
        case rel => exact ⟨k + 1, by omega, rfl, by go_num, hb1⟩
        case measure => simp [intOf]; omega
      · obtain ⟨j, hj⟩ : ∃ j, k = j + 1 := ⟨k - 1, by omega⟩
        have hjl : j < n := by omega
        have hkb : decide ((0 : Int) < (k : Int)) = true := by simp; omega
        have hkbN : decide (0 < k) = true := by simp; omega
        obtain ⟨b', off', u', t', hbe, _, g0', g1', _, _, hx', _⟩ := hL.at (show j < L.length by rw [← HN.out]; exact hjl)
        injection hbe with hbe
        injection hbe with hbe1 hbe2
        subst hbe1
        subst hbe2
        have hut' := HD.out (u', t') (List.mem_of_getElem? hx'.out)
        dsimp only at hut'
        obtain ⟨q', rfl⟩ : ∃ q : Nat, u' = (q : Int) := ⟨u'.toNat, by omega⟩
        have hsq := seq_at HSQ.out hx'.out (by rw [← hj]; exact hx.out)
        dsimp only at hsq
        rw [Int.toNat_natCast] at hsq
        have hse := HSE.out q' (by omega)
        have hsc := fun V h1 h2 => Seconds_any ar ap cr cp rs ps p0 way step q' V h1 h2 T hT (by omega) h6
        obtain ⟨sc, hscv⟩ : ∃ sc, sc = secs T q' := ⟨_, rfl⟩
        rw [← hscv] at hsc hsq hse
        have hjI : (k : Int) - 1 = (j : Int) := by omega
        have hjI2 : (j : Int) < (n : Int) := by omega
        have hj0 : (0 : Int) ≤ (j : Int) := by omega
        have ewj : IntKind.i64.wrap ((k : Int) - 1) = (j : Int) := by rw [hjI]; exact IntWalk.i64_in _ (by omega)
        have ewt : IntKind.i64.wrap (t' + sc) = t' + sc := IntWalk.i64_in _ (by omega)
        have htd2 : decide (t < t' + sc) = false := by simp; omega
        refine wp_region_head 50 (SnS w.heap.size #[.slice ar rs.length cr, .int .i64 p0, .int .i64 way, .int .i64 step, .slice ap ps.length cp] ⟨b, off + k * 2, none⟩ ⟨b, off + k * 2 + 1, none⟩ u t [(⟨b, off + j * 2, none⟩, .int .i64 (q' : Int)), (⟨b, off + j * 2 + 1, none⟩, .int .i64 t')]) (by kernel_rfl) rfl ?_
        generalize wr.drew = Y0 at *
        have S0 : SnS w.heap.size #[.slice ar rs.length cr, .int .i64 p0, .int .i64 way, .int .i64 step, .slice ap ps.length cp] ⟨b, off + k * 2, none⟩ ⟨b, off + k * 2 + 1, none⟩ u t [(⟨b, off + j * 2, none⟩, .int .i64 (q' : Int)), (⟨b, off + j * 2 + 1, none⟩, .int .i64 t')] Y0 := ⟨x2, Below.keep hbr2 g0, Below.keep hbr2 g1, fun p hp => by
          rcases List.mem_cons.1 hp with rfl | hp
          · exact Below.keep hbr2 g0'
          · rw [List.mem_singleton.1 hp]; exact Below.keep hbr2 g1'⟩
        clear hj hscv hx hx' g0 g1 g0' g1'
        have hPb := hbr2
        have hRc := hR.below hPb (Nat.le_refl _); have hPc := hP.below hPb (Nat.le_refl _)
        clear hbr2 hPb
        refine HeadAt.take (i := 0) (.agg #[.slice ar rs.length cr, .int .i64 p0, .int .i64 way, .int .i64 step, .slice ap ps.length cp]) rfl (by kernel_rfl) (.inl ⟨rfl, fun w' z => ?_⟩) S0 ?_
        · (have z0 := z.x.cell 0 rfl; have z1 := z.x.cell 1 rfl; have z2 := z.x.cell 2 rfl; have z3 := z.x.cell 3 rfl; have z4 := z.x.cell 4 rfl; simp [go_sem, z0, z1, z2, z3, z4])
        refine HeadAt.take (i := 1) (.slice (some ⟨b, off, none⟩) n cl) rfl (by kernel_rfl) (.inl ⟨rfl, fun _ _ => by simp [go_sem]⟩) S0 ?_
        refine HeadAt.take (i := 2) (.int .i64 (k : Int)) rfl (by kernel_rfl) (.inl ⟨rfl, fun _ _ => by simp [go_sem]⟩) S0 ?_
        simp only [Act.put, List.getElem_toArray, List.getElem_cons_succ, List.getElem_cons_zero, List.setIfInBounds_toArray, List.set_cons_succ, List.set_cons_zero]
        refine HeadAt.take (i := 3) (.pointer (some ⟨b, off + k * 2, none⟩)) rfl (by kernel_rfl) (.inl ⟨rfl, fun w' z => ?_⟩) S0 ?_
        · (simp [go_sem, hkI, hk0])
        refine HeadAt.take (i := 4) (.pointer (some ⟨b, off + k * 2, none⟩)) rfl (by kernel_rfl) (.inl ⟨rfl, fun _ _ => by simp [go_sem]⟩) S0 ?_
        refine HeadAt.take (i := 5) (.int .i64 u) rfl (by kernel_rfl) (.inl ⟨rfl, fun w' z => ?_⟩) S0 ?_
        · (simp [go_sem, z.u])
        refine HeadAt.one (i := 6) rfl (by kernel_rfl) ?_
        generalize hK : Upto _ _ = K0
        (try simp only [Act.put, List.getElem_toArray, List.getElem_cons_succ, List.getElem_cons_zero, List.setIfInBounds_toArray, List.set_cons_succ, List.set_cons_zero])
        go_wp2_with fail
        refine (hsd _).mono ?_
        rintro e Y1 ⟨rfl, hb2⟩
        replace S0 := S0.below hb2
        replace hb1 := hb1.trans (hb2.mono hb1.size)
        replace hRc := hRc.below hb2 (Nat.le_refl _); replace hPc := hPc.below hb2 (Nat.le_refl _)
        clear hb2
        go_wp2_with fail
        subst hK
        refine ⟨S0, ?_⟩
        refine HeadAt.take (i := 7) (.bool false) rfl (by kernel_rfl) (.inl ⟨rfl, fun _ _ => by simp [go_sem]⟩) S0 ?_
        refine HeadAt.take (i := 8) (.bool false) rfl (by kernel_rfl) (.inl ⟨rfl, fun _ _ => by simp [go_sem]⟩) S0 ?_
        simp only [Act.put, List.getElem_toArray, List.getElem_cons_succ, List.getElem_cons_zero, List.setIfInBounds_toArray, List.set_cons_succ, List.set_cons_zero]
        refine HeadAt.take (i := 9) (.slice (some ⟨b, off, none⟩) n cl) rfl (by kernel_rfl) (.inl ⟨rfl, fun _ _ => by simp [go_sem]⟩) S0 ?_
        refine HeadAt.take (i := 10) (.int .i64 (k : Int)) rfl (by kernel_rfl) (.inl ⟨rfl, fun _ _ => by simp [go_sem]⟩) S0 ?_
        refine HeadAt.take (i := 11) (.pointer (some ⟨b, off + k * 2, none⟩)) rfl (by kernel_rfl) (.inl ⟨rfl, fun w' z => ?_⟩) S0 ?_
        · (simp [go_sem, hkI, hk0])
        simp only [Act.put, List.getElem_toArray, List.getElem_cons_succ, List.getElem_cons_zero, List.setIfInBounds_toArray, List.set_cons_succ, List.set_cons_zero]
        refine HeadAt.take (i := 12) (.pointer (some ⟨b, off + k * 2 + 1, none⟩)) rfl (by kernel_rfl) (.inl ⟨rfl, fun _ _ => by simp [go_sem]⟩) S0 ?_
        refine HeadAt.take (i := 13) (.int .i64 t) rfl (by kernel_rfl) (.inl ⟨rfl, fun w' z => ?_⟩) S0 ?_
        · (simp [go_sem, z.t])
        refine HeadAt.take (i := 14) (.bool false) rfl (by kernel_rfl) (.inl ⟨rfl, fun w' z => ?_⟩) S0 ?_
        · (simp [go_sem, htd0])
        simp only [Act.put, List.getElem_toArray, List.getElem_cons_succ, List.getElem_cons_zero, List.setIfInBounds_toArray, List.set_cons_succ, List.set_cons_zero]
        refine HeadAt.take (i := 15) (.bool false) rfl (by kernel_rfl) (.inl ⟨rfl, fun _ _ => by simp [go_sem]⟩) S0 ?_
        refine HeadAt.take (i := 16) (.bool false) rfl (by kernel_rfl) (.inl ⟨rfl, fun _ _ => by simp [go_sem]⟩) S0 ?_
        refine HeadAt.take (i := 17) (.slice (some ⟨b, off, none⟩) n cl) rfl (by kernel_rfl) (.inl ⟨rfl, fun _ _ => by simp [go_sem]⟩) S0 ?_
        simp only [Act.put, List.getElem_toArray, List.getElem_cons_succ, List.getElem_cons_zero, List.setIfInBounds_toArray, List.set_cons_succ, List.set_cons_zero]
        refine HeadAt.take (i := 18) (.int .i64 (k : Int)) rfl (by kernel_rfl) (.inl ⟨rfl, fun _ _ => by simp [go_sem]⟩) S0 ?_
        refine HeadAt.take (i := 19) (.pointer (some ⟨b, off + k * 2, none⟩)) rfl (by kernel_rfl) (.inl ⟨rfl, fun w' z => ?_⟩) S0 ?_
        · (simp [go_sem, hkI, hk0])
        refine HeadAt.take (i := 20) (.pointer (some ⟨b, off + k * 2 + 1, none⟩)) rfl (by kernel_rfl) (.inl ⟨rfl, fun _ _ => by simp [go_sem]⟩) S0 ?_
        simp only [Act.put, List.getElem_toArray, List.getElem_cons_succ, List.getElem_cons_zero, List.setIfInBounds_toArray, List.set_cons_succ, List.set_cons_zero]
        refine HeadAt.take (i := 21) (.int .i64 t) rfl (by kernel_rfl) (.inl ⟨rfl, fun w' z => ?_⟩) S0 ?_
        · (simp [go_sem, z.t])
        refine HeadAt.take (i := 22) (.bool false) rfl (by kernel_rfl) (.inl ⟨rfl, fun w' z => ?_⟩) S0 ?_
        · (simp [go_sem, htd1])
        refine HeadAt.take (i := 23) (.bool false) rfl (by kernel_rfl) (.inl ⟨rfl, fun _ _ => by simp [go_sem]⟩) S0 ?_
        simp only [Act.put, List.getElem_toArray, List.getElem_cons_succ, List.getElem_cons_zero, List.setIfInBounds_toArray, List.set_cons_succ, List.set_cons_zero]
        refine HeadAt.take (i := 24) (.bool false) rfl (by kernel_rfl) (.inl ⟨rfl, fun _ _ => by simp [go_sem]⟩) S0 ?_
        refine HeadAt.take (i := 25) (.int .i64 (k : Int)) rfl (by kernel_rfl) (.inl ⟨rfl, fun _ _ => by simp [go_sem]⟩) S0 ?_
        refine HeadAt.take (i := 26) (.bool true) rfl (by kernel_rfl) (.inl ⟨rfl, fun w' z => ?_⟩) S0 ?_
        · (simp [go_sem, hkbN])
        refine HeadAt.take (i := 27) (.bool true) rfl (by kernel_rfl) (.inl ⟨rfl, fun _ _ => by simp [go_sem]⟩) S0 ?_
        simp only [Act.put, List.getElem_toArray, List.getElem_cons_succ, List.getElem_cons_zero, List.setIfInBounds_toArray, List.set_cons_succ, List.set_cons_zero]
        refine HeadAt.take (i := 28) (.slice (some ⟨b, off, none⟩) n cl) rfl (by kernel_rfl) (.inl ⟨rfl, fun _ _ => by simp [go_sem]⟩) S0 ?_
        refine HeadAt.take (i := 29) (.int .i64 (k : Int)) rfl (by kernel_rfl) (.inl ⟨rfl, fun _ _ => by simp [go_sem]⟩) S0 ?_
        refine HeadAt.take (i := 30) (.pointer (some ⟨b, off + k * 2, none⟩)) rfl (by kernel_rfl) (.inl ⟨rfl, fun w' z => ?_⟩) S0 ?_
        · (simp [go_sem, hkI, hk0])
        simp only [Act.put, List.getElem_toArray, List.getElem_cons_succ, List.getElem_cons_zero, List.setIfInBounds_toArray, List.set_cons_succ, List.set_cons_zero]
        refine HeadAt.take (i := 31) (.pointer (some ⟨b, off + k * 2 + 1, none⟩)) rfl (by kernel_rfl) (.inl ⟨rfl, fun _ _ => by simp [go_sem]⟩) S0 ?_
        refine HeadAt.take (i := 32) (.int .i64 t) rfl (by kernel_rfl) (.inl ⟨rfl, fun w' z => ?_⟩) S0 ?_
        · (simp [go_sem, z.t])
        refine HeadAt.take (i := 33) (.slice (some ⟨b, off, none⟩) n cl) rfl (by kernel_rfl) (.inl ⟨rfl, fun _ _ => by simp [go_sem]⟩) S0 ?_
        simp only [Act.put, List.getElem_toArray, List.getElem_cons_succ, List.getElem_cons_zero, List.setIfInBounds_toArray, List.set_cons_succ, List.set_cons_zero]
        refine HeadAt.take (i := 34) (.int .i64 (k : Int)) rfl (by kernel_rfl) (.inl ⟨rfl, fun _ _ => by simp [go_sem]⟩) S0 ?_
        refine HeadAt.take (i := 35) (.int .i64 (j : Int)) rfl (by kernel_rfl) (.inl ⟨rfl, fun w' z => ?_⟩) S0 ?_
        · (simp [go_sem, ewj])
        refine HeadAt.take (i := 36) (.pointer (some ⟨b, off + j * 2, none⟩)) rfl (by kernel_rfl) (.inl ⟨rfl, fun w' z => ?_⟩) S0 ?_
        · (simp [go_sem, hjI2, hj0])
        simp only [Act.put, List.getElem_toArray, List.getElem_cons_succ, List.getElem_cons_zero, List.setIfInBounds_toArray, List.set_cons_succ, List.set_cons_zero]
        refine HeadAt.take (i := 37) (.pointer (some ⟨b, off + j * 2 + 1, none⟩)) rfl (by kernel_rfl) (.inl ⟨rfl, fun _ _ => by simp [go_sem]⟩) S0 ?_
        refine HeadAt.take (i := 38) (.int .i64 t') rfl (by kernel_rfl) (.inl ⟨rfl, fun w' z => ?_⟩) S0 ?_
        · (have z0 := z.e (⟨b, off + j * 2 + 1, none⟩, .int .i64 t') (by simp); simp [go_sem, z0])
        refine HeadAt.take (i := 39) (.agg #[.slice ar rs.length cr, .int .i64 p0, .int .i64 way, .int .i64 step, .slice ap ps.length cp]) rfl (by kernel_rfl) (.inl ⟨rfl, fun w' z => ?_⟩) S0 ?_
        · (have z0 := z.x.cell 0 rfl; have z1 := z.x.cell 1 rfl; have z2 := z.x.cell 2 rfl; have z3 := z.x.cell 3 rfl; have z4 := z.x.cell 4 rfl; simp [go_sem, z0, z1, z2, z3, z4])
        simp only [Act.put, List.getElem_toArray, List.getElem_cons_succ, List.getElem_cons_zero, List.setIfInBounds_toArray, List.set_cons_succ, List.set_cons_zero]
        refine HeadAt.take (i := 40) (.slice (some ⟨b, off, none⟩) n cl) rfl (by kernel_rfl) (.inl ⟨rfl, fun _ _ => by simp [go_sem]⟩) S0 ?_
        refine HeadAt.take (i := 41) (.int .i64 (k : Int)) rfl (by kernel_rfl) (.inl ⟨rfl, fun _ _ => by simp [go_sem]⟩) S0 ?_
        refine HeadAt.take (i := 42) (.int .i64 (j : Int)) rfl (by kernel_rfl) (.inl ⟨rfl, fun w' z => ?_⟩) S0 ?_
        · (simp [go_sem, ewj])
        simp only [Act.put, List.getElem_toArray, List.getElem_cons_succ, List.getElem_cons_zero, List.setIfInBounds_toArray, List.set_cons_succ, List.set_cons_zero]
        refine HeadAt.take (i := 43) (.pointer (some ⟨b, off + j * 2, none⟩)) rfl (by kernel_rfl) (.inl ⟨rfl, fun w' z => ?_⟩) S0 ?_
        · (simp [go_sem, hjI2, hj0])
        refine HeadAt.take (i := 44) (.pointer (some ⟨b, off + j * 2, none⟩)) rfl (by kernel_rfl) (.inl ⟨rfl, fun _ _ => by simp [go_sem]⟩) S0 ?_
        refine HeadAt.take (i := 45) (.int .i64 (q' : Int)) rfl (by kernel_rfl) (.inl ⟨rfl, fun w' z => ?_⟩) S0 ?_
        · (have z0 := z.e (⟨b, off + j * 2, none⟩, .int .i64 (q' : Int)) (by simp); simp [go_sem, z0])
        refine HeadAt.one (i := 46) rfl (by kernel_rfl) ?_
        generalize hK : Upto _ _ = K0
        (try simp only [Act.put, List.getElem_toArray, List.getElem_cons_succ, List.getElem_cons_zero, List.setIfInBounds_toArray, List.set_cons_succ, List.set_cons_zero])
        go_wp2_with fail
        refine (hsc _ hRc hPc).mono ?_
        rintro e Y2 ⟨rfl, hb2⟩
        replace S0 := S0.below hb2
        replace hb1 := hb1.trans (hb2.mono hb1.size)
        clear hb2 hsc hRc hPc
        go_wp2_with fail
        subst hK
        refine ⟨S0, ?_⟩
        refine HeadAt.take (i := 47) (.int .i64 (t' + sc)) rfl (by kernel_rfl) (.inl ⟨rfl, fun w' z => ?_⟩) S0 ?_
        · (simp [go_sem, ewt])
        refine HeadAt.take (i := 48) (.bool false) rfl (by kernel_rfl) (.inl ⟨rfl, fun w' z => ?_⟩) S0 ?_
        · (simp [go_sem, htd2])
        refine HeadAt.take (i := 49) (.bool false) rfl (by kernel_rfl) (.inl ⟨rfl, fun _ _ => by simp [go_sem]⟩) S0 ?_
        refine HeadAt.done (by kernel_rfl) ?_
        (try simp only [Act.put, List.drop_succ_cons, List.drop_zero, List.getElem_toArray, List.getElem_cons_succ, List.getElem_cons_zero])
        clear S0
        go_wp2_with fail
        refine NoPanic.normal ?_
        go_wp2_with fail
        go_roundw
        case rel => exact ⟨k + 1, by omega, rfl, by go_num, hb1⟩
        case measure => simp [intOf]; omega
    · have hkI : (n : Int) ≤ (k : Int) := by omega
      go_wp2
      go_ret
      exact ⟨rfl, hbr⟩
end Go.Proofs.Ytknaljghpfeikaa
