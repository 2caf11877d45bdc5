import Derived.Test.YtknaljghpfeikaaT33
namespace Go.Proofs.Ytknaljghpfeikaa
open Go.RowKit

def fillV (bc bv bo bf : Nat) : Value := .func (.func 92) #[] #[.pointer (some ⟨bc, 0, none⟩), .pointer (some ⟨bv, 0, none⟩), .pointer (some ⟨bo, 0, none⟩), .pointer (some ⟨bf, 0, none⟩)]
def visV (b0 bE bB : Nat) : Value := .func (.func 80) #[] #[.pointer (some ⟨b0, 0, none⟩), .pointer (some ⟨bE, 0, none⟩), .pointer (some ⟨bB, 0, none⟩)]
/-- The cells of eachOrder's variables, the order among them. -/
structure FillAt (B bc bv bo bf g cap n b0 bE bB : Nat) (l : List Int) (w : World) : Prop where
  c : Bx w bc #[.int .i64 (n : Int)] 3
  v : Bx w bv #[visV b0 bE bB] 103
  o : Bx w bo #[.slice (some ⟨g, 0, none⟩) n cap] 35
  f : Bx w bf #[fillV bc bv bo bf] 75
  row : w.ownsRow B 3 1 (.slice (some ⟨g, 0, none⟩) n cap) n (l.map (Value.int .i64))
/-- What all these blocks are to each other. -/
structure FillNe (B bc bv bo bf g b0 bE bB W0 : Nat) : Prop where
  h1 : W0 ≤ B
  h2 : B ≤ bB ∧ B ≤ bE ∧ B ≤ g
  h3 : bB ≠ bE ∧ bB ≠ g ∧ bE ≠ g
  h4 : b0 ≠ bB ∧ b0 ≠ bE ∧ b0 ≠ g
  h5 : bc ≠ bB ∧ bc ≠ bE ∧ bc ≠ g
  h6 : bv ≠ bB ∧ bv ≠ bE ∧ bv ≠ g
  h7 : bo ≠ bB ∧ bo ≠ bE ∧ bo ≠ g
  h8 : bf ≠ bB ∧ bf ≠ bE ∧ bf ≠ g
def FS (bB bE g : Nat) (k : Nat) : Prop := k = bB ∨ k = bE ∨ k = g
theorem BestAt.keepg {g b bB bE : Nat} {s : List Int × Int} {w w' : World} (h : BestAt g b bB bE s w) (hg : w.grownBy w' (some g)) (h1 : bB ≠ g) (h2 : bE ≠ g) : BestAt g b bB bE s w' := by
  obtain ⟨hE, a1, a2, a3, v, hB, hr, hv⟩ := h
  exact ⟨hE.gb hg (fun k hk => by cases hk; exact h2), a1, a2, a3, v, hB.gb hg (fun k hk => by cases hk; exact h1), own_keep hr hg (fun k hk e => by have := (hv k hk).1; injection e with e; omega), hv⟩
theorem BestAt.drew {g b bB bE : Nat} {s : List Int × Int} {w w' : World} (h : BestAt g b bB bE s w) (hb : Below w.heap.size w w') : BestAt g b bB bE s w' := by
  obtain ⟨hE, a1, a2, a3, v, hB, hr, hv⟩ := h
  exact ⟨hE.below hb, a1, a2, a3, v, hB.below hb, own_below2 hr hb, hv⟩
theorem FillAt.below {B bc bv bo bf g cap n b0 bE bB : Nat} {l : List Int} {w w' : World} (h : FillAt B bc bv bo bf g cap n b0 bE bB l w) (hb : Below w.heap.size w w') : FillAt B bc bv bo bf g cap n b0 bE bB l w' :=
  ⟨h.c.below hb, h.v.below hb, h.o.below hb, h.f.below hb, own_below2 h.row hb⟩
theorem FillAt.ch {B bc bv bo bf g cap n b0 bE bB W0 : Nat} {l : List Int} {w w' : World} (h : FillAt B bc bv bo bf g cap n b0 bE bB l w) (hN : FillNe B bc bv bo bf g b0 bE bB W0) (hc : Ch (fun k => k = bB ∨ k = bE) w w') : FillAt B bc bv bo bf g cap n b0 bE bB l w' :=
  ⟨h.c.ch hc (fun e => by have := hN.h5; omega), h.v.ch hc (fun e => by have := hN.h6; omega), h.o.ch hc (fun e => by have := hN.h7; omega), h.f.ch hc (fun e => by have := hN.h8; omega),
    own_ch h.row hc (fun k hk e => by have := hN.h3; simp [Value.ownBlock] at hk; omega)⟩
theorem FillAt.ints {B bc bv bo bf g cap n b0 bE bB : Nat} {l : List Int} {w : World} (h : FillAt B bc bv bo bf g cap n b0 bE bB l w) (hl : l.length = n) (hb : ∀ x ∈ l, 0 ≤ x ∧ x < (6 : Int)) (hn : n ≤ 6) : Ints w (some ⟨g, 0, none⟩) l := by
  obtain ⟨a, ca, e, hI⟩ := Ints.of_own (by rw [hl]; exact h.row) (by omega) (fun x hx => by have := hb x hx; omega)
  simp only [Value.slice.injEq] at e
  rw [e.1]
  exact hI
theorem row_at {w : World} {B g n cap : Nat} {l : List Int} (h : w.ownsRow B 3 1 (.slice (some ⟨g, 0, none⟩) n cap) n (l.map (Value.int .i64))) (hl : l.length = n) {i : Nat} (hi : i < n) : w.cell? ⟨g, i, none⟩ = some (.int .i64 (l.getD i 0)) ∧ w.frozen? ⟨g, i, none⟩ = false := by
  refine ⟨?_, h.frozenAt i⟩
  have := World.ownsRow.cellAt h i (by omega)
  rw [this]
  have hl' : i < l.length := by omega
  simp [List.getD, hl']
theorem row_put {w : World} {B g n cap : Nat} {l : List Int} (h : w.ownsRow B 3 1 (.slice (some ⟨g, 0, none⟩) n cap) n (l.map (Value.int .i64))) (i : Nat) (x : Int) :
    (w.setCell ⟨g, i, none⟩ (.int .i64 x)).ownsRow B 3 1 (.slice (some ⟨g, 0, none⟩) n cap) n ((l.set i x).map (Value.int .i64)) ∧ w.grownBy (w.setCell ⟨g, i, none⟩ (.int .i64 x)) (some g) := by
  rw [List.map_set]
  exact h.stored i _
theorem FillAt.put {B bc bv bo bf g cap n b0 bE bB W0 : Nat} {l : List Int} {w : World} (h : FillAt B bc bv bo bf g cap n b0 bE bB l w) (hN : FillNe B bc bv bo bf g b0 bE bB W0) (i : Nat) (x : Int) :
    FillAt B bc bv bo bf g cap n b0 bE bB (l.set i x) (w.setCell ⟨g, i, none⟩ (.int .i64 x)) := by
  obtain ⟨h1, h2⟩ := row_put h.row i x
  exact ⟨h.c.gb h2 (fun k hk => by cases hk; exact hN.h5.2.2), h.v.gb h2 (fun k hk => by cases hk; exact hN.h6.2.2), h.o.gb h2 (fun k hk => by cases hk; exact hN.h7.2.2), h.f.gb h2 (fun k hk => by cases hk; exact hN.h8.2.2), h1⟩



def FillP (B bc bv bo bf g cap n b0 bE bB : Nat) (l : List Int) (s : List Int × Int) (w : World) (e : Ending) (w' : World) : Prop :=
  e = .returned (.tuple #[]) ∧ FillAt B bc bv bo bf g cap n b0 bE bB l w' ∧ BestAt g B bB bE s w' ∧ Ch (FS bB bE g) w w'

set_option maxRecDepth 100000 in
set_option maxHeartbeats 6000000 in
theorem fill_any (ar ap : Option Addr) (cr cp : Nat) (rs ps : List (Int × Int)) (p0 way step : Int) (T : Tr) (hT : IsTr T rs ps p0 way step) (hpl : ps.length ≤ 12) (B bc bv bo bf g cap n b0 bE bB : Nat) (w0 : World) (hR : Prs w0 ar rs) (hP : Prs w0 ap ps) (hNe : FillNe B bc bv bo bf g b0 bE bB w0.heap.size) (hn : n = rs.length) :
    ∀ (d a0 : Nat) (l : List Int) (s : List Int × Int) (w : World), a0 + d = n → l.length = n → (∀ x ∈ l, 0 ≤ x ∧ x < (rs.length : Int)) → Below w0.heap.size w0 w → Bx w b0 #[.slice ar rs.length cr, .int .i64 p0, .int .i64 way, .int .i64 step, .slice ap ps.length cp] 25 → FillAt B bc bv bo bf g cap n b0 bE bB l w → BestAt g B bB bE s w →
      Calls Try.prog 92 #[.int .i64 (a0 : Int), .pointer (some ⟨bc, 0, none⟩), .pointer (some ⟨bv, 0, none⟩), .pointer (some ⟨bo, 0, none⟩), .pointer (some ⟨bf, 0, none⟩)] w (FillP B bc bv bo bf g cap n b0 bE bB l ((perms d a0 l).foldl (visB T) s) w) := by
  intro d
  induction d with
  | zero =>
    intro a0 l s w had hl hlm hb0 hx HF HB
    have hn6 := hT.hv.n6
    rw [hT.T1, ← hn] at hn6
    obtain rfl : a0 = n := by omega
    have hI := HF.ints hl (fun x hx => by have := hlm x hx; omega) hn6
    have hvis := visit_any ar ap cr cp rs ps p0 way step T hT hpl b0 bB bE g cap B l s w0 w hR hP hb0 hx (by omega) hlm hI HB hNe.h3.1 hNe.h4.1 hNe.h4.2.1 ⟨hNe.h2.1, hNe.h2.2.1⟩ hNe.h1 (own_lt HF.row g rfl)
    rw [hl] at hvis
    have e0 : (perms 0 a0 l).foldl (visB T) s = visB T s l := rfl
    rw [e0]
    have c0 := HF.c.cell 0 rfl
    have v0 := HF.v.cell 0 rfl
    have o0 := HF.o.cell 0 rfl
    unfold visV at v0
    have HH := hid (And.intro HF HB)
    clear HF HB hI hx hlm hl hn hb0
    go_enter Try.func92, Try.ntmps92
    go_wp2_with fail
    refine hvis.mono ?_
    rintro e W1 ⟨rfl, HB1, HC⟩
    have HX := hid (show FillAt B bc bv bo bf g cap a0 b0 bE bB l W1 ∧ BestAt g B bB bE (visB T s l) W1 ∧ Ch (FS bB bE g) w W1 from ⟨HH.out.1.ch hNe HC, HB1, HC.mono fun k hk => by rcases hk with h | h; exact .inl h; exact .inr (.inl h)⟩)
    clear hvis HB1 HC HH c0 v0 o0
    go_wp2
    go_end0
    exact ⟨rfl, HX.out⟩
  | succ d ih =>
    intro a0 l s w had hl hlm hb0 hx0 HF HB
    have hn6 := hT.hv.n6
    have hn1 := hT.hv.n1
    rw [hT.T1, ← hn] at hn6 hn1
    have hai : a0 < n := by omega
    have haI : (a0 : Int) < (n : Int) := by omega
    have haz : (0 : Int) ≤ (a0 : Int) := by omega
    have hnI : (n : Int) ≤ 6 := by omega
    have hzq : ((a0 : Int) == (n : Int)) = false := by simp; omega
    obtain ⟨st, hst⟩ : ∃ st : Nat → List Int × Int, ∀ j, st j = (((List.range j).flatMap fun k => perms d (a0 + 1) (swapL l a0 (a0 + k))).foldl (visB T) s) := ⟨_, fun _ => rfl⟩
    have hst0 : st 0 = s := by rw [hst]; rfl
    have hst1 : ∀ j, st (j + 1) = (perms d (a0 + 1) (swapL l a0 (a0 + j))).foldl (visB T) (st j) := fun j => by rw [hst, hst, List.range_succ, List.flatMap_append, List.foldl_append]; simp
    have hstd : (perms (d + 1) a0 l).foldl (visB T) s = st (d + 1) := by rw [hst]; rfl
    rw [hstd]
    have HST := hid hst1
    have c0 := HF.c.cell 0 rfl
    have HS := hid (And.intro HF (by rw [← hst0] at HB; exact HB : BestAt g B bB bE (st 0) w))
    have HW := hid (And.intro hb0 hx0)
    have HLM := hid hlm
    have HIH := hid ih
    have HN := hid hn
    have HL := hid hl
    have hL : l.length = n := hl
    clear hst hst0 hst1 hstd HF HB hb0 hx0 hlm ih hn hl
    go_enter Try.func92, Try.ntmps92
    go_wp2
    clear c0 hzq
    go_loopw [6] (fun v6 wr => ∃ (j i : Nat), Hid (i = a0 + j) ∧ j ≤ d + 1 ∧ v6 = .int .i64 (i : Int) ∧ FillAt B bc bv bo bf g cap n b0 bE bB l wr ∧ BestAt g B bB bE (st j) wr ∧ Ch (FS bB bE g) w wr) (fun v6 _ => n - (intOf v6).toNat)
    case atStart => exact ⟨0, a0, hid rfl, Nat.zero_le _, rfl, HS.out.1, HS.out.2, Ch.refl _ _⟩
    case round =>
      clear HS
      obtain ⟨j, i0, hi0, hj, rfl, HF, HB, HC⟩ := hrel
      have k0 := HF.c.cell 0 rfl
      by_cases hlt : j < d + 1
      · have hii : i0 < n := by have := hi0.out; omega
        have hiI : (i0 : Int) < (n : Int) := by omega
        have hiz : (0 : Int) ≤ (i0 : Int) := by omega
        go_upto_region 5 with fail
        clear k0
        go_cut [] (fun wx => FillAt B bc bv bo bf g cap n b0 bE bB (swapL l a0 i0) wx ∧ BestAt g B bB bE (st j) wx ∧ Ch (FS bB bE g) w wx)
        case first =>
          obtain ⟨wz, rfl⟩ : ∃ wz : World, wz = wr := ⟨_, rfl⟩
          obtain ⟨L, rfl⟩ : ∃ L, L = l := ⟨_, rfl⟩
          obtain ⟨x, hx⟩ : ∃ x, Hid (x = L.getD i0 0) := ⟨_, hid rfl⟩
          obtain ⟨y, hy⟩ : ∃ y, Hid (y = L.getD a0 0) := ⟨_, hid rfl⟩
          have hbd := (Below.refl wz.heap.size wz).drew
          replace HF := HF.below hbd
          replace HB := HB.drew hbd
          replace HC := HC.trans (Ch.of_below hbd)
          clear hbd
          refine wp_region_head 14 (fun w' => Bx w' bo #[.slice (some ⟨g, 0, none⟩) n cap] 35) (by kernel_rfl) rfl ?_
          generalize wz.drew = Y0 at *
          refine HeadAt.take (i := 0) (.slice (some ⟨g, 0, none⟩) n cap) rfl (by kernel_rfl) (.inl ⟨rfl, fun w' z => ?_⟩) HF.o ?_
          · (have z0 := z.cell 0 rfl; simp [go_sem, z0])
          refine HeadAt.take (i := 1) (.int .i64 (a0 : Int)) rfl (by kernel_rfl) (.inl ⟨rfl, fun _ _ => by simp [go_sem]⟩) HF.o ?_
          refine HeadAt.take (i := 2) (.slice (some ⟨g, 0, none⟩) n cap) rfl (by kernel_rfl) (.inl ⟨rfl, fun w' z => ?_⟩) HF.o ?_
          · (have z0 := z.cell 0 rfl; simp [go_sem, z0])
          refine HeadAt.take (i := 3) (.int .i64 (i0 : Int)) rfl (by kernel_rfl) (.inl ⟨rfl, fun _ _ => by simp [go_sem]⟩) HF.o ?_
          refine HeadAt.take (i := 4) (.slice (some ⟨g, 0, none⟩) n cap) rfl (by kernel_rfl) (.inl ⟨rfl, fun w' z => ?_⟩) HF.o ?_
          · (have z0 := z.cell 0 rfl; simp [go_sem, z0])
          simp only [Act.put, List.getElem_toArray, List.getElem_cons_succ, List.getElem_cons_zero, List.setIfInBounds_toArray, List.set_cons_succ, List.set_cons_zero]
          refine HeadAt.take (i := 5) (.int .i64 (i0 : Int)) rfl (by kernel_rfl) (.inl ⟨rfl, fun _ _ => by simp [go_sem]⟩) HF.o ?_
          refine HeadAt.take (i := 6) (.pointer (some ⟨g, i0, none⟩)) rfl (by kernel_rfl) (.inl ⟨rfl, fun w' z => ?_⟩) HF.o ?_
          · (simp [go_sem, hiI, hiz])
          refine HeadAt.take (i := 8) (.slice (some ⟨g, 0, none⟩) n cap) rfl (by kernel_rfl) (.inl ⟨rfl, fun w' z => ?_⟩) HF.o ?_
          · (have z0 := z.cell 0 rfl; simp [go_sem, z0])
          simp only [Act.put, List.getElem_toArray, List.getElem_cons_succ, List.getElem_cons_zero, List.setIfInBounds_toArray, List.set_cons_succ, List.set_cons_zero]
          refine HeadAt.take (i := 9) (.int .i64 (a0 : Int)) rfl (by kernel_rfl) (.inl ⟨rfl, fun _ _ => by simp [go_sem]⟩) HF.o ?_
          refine HeadAt.take (i := 10) (.pointer (some ⟨g, a0, none⟩)) rfl (by kernel_rfl) (.inl ⟨rfl, fun w' z => ?_⟩) HF.o ?_
          · (simp [go_sem, haI, haz])
          have k7 : Y0.cell? ⟨g, i0, none⟩ = some (.int .i64 x) := by rw [hx.out]; exact (row_at HF.row hL (i := i0) hii).1
          have k11 : Y0.cell? ⟨g, a0, none⟩ = some (.int .i64 y) := by rw [hy.out]; exact (row_at HF.row hL (i := a0) hai).1
          have HO := HF.o
          have HH := hid (And.intro HF (And.intro HB HC))
          clear HF HB HC
          refine HeadAt.two (i := 7) (j := 11) rfl rfl (by kernel_rfl) ?_ ?_
          · skip
            generalize hK : Upto _ _ = K0
            (try simp only [Act.put, List.getElem_toArray, List.getElem_cons_succ, List.getElem_cons_zero, List.setIfInBounds_toArray, List.set_cons_succ, List.set_cons_zero])
            go_wp2_with fail
            subst hK
            refine ⟨HO, ?_⟩
            refine HeadAt.one (i := 11) rfl (by kernel_rfl) ?_
            generalize hK : Upto _ _ = K0
            (try simp only [List.getElem_toArray, List.getElem_cons_succ, List.getElem_cons_zero])
            go_wp2_with fail
            subst hK
            refine ⟨HO, ?_⟩
            clear k7 k11
            obtain ⟨HF, HB, HC⟩ := HH.out
            clear HO HH
            refine HeadAt.take (i := 12) (.pointer (some ⟨g, a0, none⟩)) rfl (by kernel_rfl) (.inl ⟨rfl, fun w' z => ?_⟩) HF.o ?_
            · (simp [go_sem, haI, haz])
            simp only [Act.put, List.getElem_toArray, List.getElem_cons_succ, List.getElem_cons_zero, List.setIfInBounds_toArray, List.set_cons_succ, List.set_cons_zero]
            have fr1 := (row_at HF.row hL (i := a0) hai).2
            have kc1 : Y0.cell? ⟨g, a0, none⟩ = some (.int .i64 y) := by rw [hy.out]; exact (row_at HF.row hL (i := a0) hai).1
            have HF1 := HF.put hNe a0 x
            have gg1 := (row_put HF.row a0 x).2
            have HB1 := HB.keepg gg1 hNe.h3.2.1 hNe.h3.2.2
            have HC1 := HC.trans (Ch.of_grown gg1 (fun k hk => by cases hk; exact .inr (.inr rfl)) : Ch (FS bB bE g) Y0 _)
            have hL1 : (L.set a0 x).length = n := by rw [List.length_set]; exact hL
            have fr2 := (row_at HF1.row hL1 (i := i0) hii).2
            have kc2 := (row_at HF1.row hL1 (i := i0) hii).1
            have HF2 := HF1.put hNe i0 y
            have gg2 := (row_put HF1.row i0 y).2
            have HB2 := HB1.keepg gg2 hNe.h3.2.1 hNe.h3.2.2
            have HC2 := HC1.trans (Ch.of_grown gg2 (fun k hk => by cases hk; exact .inr (.inr rfl)) : Ch (FS bB bE g) _ _)
            have HZ := hid (And.intro (show FillAt B bc bv bo bf g cap n b0 bE bB (swapL L a0 i0) _ from by unfold swapL; rw [← hx.out, ← hy.out]; exact HF2) (And.intro HB2 HC2))
            have HZ1 := hid HF1.o
            clear HF HB HC HF1 gg1 HB1 HC1 HF2 gg2 HB2 HC2 hL1
            refine HeadAt.one (i := 13) rfl (by kernel_rfl) ?_
            generalize hK : Upto _ _ = K0
            (try simp only [List.getElem_toArray, List.getElem_cons_succ, List.getElem_cons_zero])
            go_wp2_with fail
            subst hK
            clear fr1 kc1
            refine ⟨HZ1.out, ?_⟩
            refine HeadAt.done (by kernel_rfl) ?_
            (try simp only [List.drop_succ_cons, List.drop_zero])
            go_wp2_with fail
            refine NoPanic.normal ?_
            go_wp2_with fail
            go_meet
            exact HZ.out
          · skip
            generalize hK : Upto _ _ = K0
            (try simp only [Act.put, List.getElem_toArray, List.getElem_cons_succ, List.getElem_cons_zero, List.setIfInBounds_toArray, List.set_cons_succ, List.set_cons_zero])
            go_wp2_with fail
            subst hK
            refine ⟨HO, ?_⟩
            refine HeadAt.one (i := 7) rfl (by kernel_rfl) ?_
            generalize hK : Upto _ _ = K0
            (try simp only [List.getElem_toArray, List.getElem_cons_succ, List.getElem_cons_zero])
            go_wp2_with fail
            subst hK
            refine ⟨HO, ?_⟩
            clear k7 k11
            obtain ⟨HF, HB, HC⟩ := HH.out
            clear HO HH
            refine HeadAt.take (i := 12) (.pointer (some ⟨g, a0, none⟩)) rfl (by kernel_rfl) (.inl ⟨rfl, fun w' z => ?_⟩) HF.o ?_
            · (simp [go_sem, haI, haz])
            simp only [Act.put, List.getElem_toArray, List.getElem_cons_succ, List.getElem_cons_zero, List.setIfInBounds_toArray, List.set_cons_succ, List.set_cons_zero]
            have fr1 := (row_at HF.row hL (i := a0) hai).2
            have kc1 : Y0.cell? ⟨g, a0, none⟩ = some (.int .i64 y) := by rw [hy.out]; exact (row_at HF.row hL (i := a0) hai).1
            have HF1 := HF.put hNe a0 x
            have gg1 := (row_put HF.row a0 x).2
            have HB1 := HB.keepg gg1 hNe.h3.2.1 hNe.h3.2.2
            have HC1 := HC.trans (Ch.of_grown gg1 (fun k hk => by cases hk; exact .inr (.inr rfl)) : Ch (FS bB bE g) Y0 _)
            have hL1 : (L.set a0 x).length = n := by rw [List.length_set]; exact hL
            have fr2 := (row_at HF1.row hL1 (i := i0) hii).2
            have kc2 := (row_at HF1.row hL1 (i := i0) hii).1
            have HF2 := HF1.put hNe i0 y
            have gg2 := (row_put HF1.row i0 y).2
            have HB2 := HB1.keepg gg2 hNe.h3.2.1 hNe.h3.2.2
            have HC2 := HC1.trans (Ch.of_grown gg2 (fun k hk => by cases hk; exact .inr (.inr rfl)) : Ch (FS bB bE g) _ _)
            have HZ := hid (And.intro (show FillAt B bc bv bo bf g cap n b0 bE bB (swapL L a0 i0) _ from by unfold swapL; rw [← hx.out, ← hy.out]; exact HF2) (And.intro HB2 HC2))
            have HZ1 := hid HF1.o
            clear HF HB HC HF1 gg1 HB1 HC1 HF2 gg2 HB2 HC2 hL1
            refine HeadAt.one (i := 13) rfl (by kernel_rfl) ?_
            generalize hK : Upto _ _ = K0
            (try simp only [List.getElem_toArray, List.getElem_cons_succ, List.getElem_cons_zero])
            go_wp2_with fail
            subst hK
            clear fr1 kc1
            refine ⟨HZ1.out, ?_⟩
            refine HeadAt.done (by kernel_rfl) ?_
            (try simp only [List.drop_succ_cons, List.drop_zero])
            go_wp2_with fail
            refine NoPanic.normal ?_
            go_wp2_with fail
            go_meet
            exact HZ.out
        case rest =>
          rename_i wc
          clear HF HB HC
          obtain ⟨HF, HB, HC⟩ := hcut
          have hcb : Below w0.heap.size w wc := HC.to_below (fun k hk => by have h1 := hNe.h1; have h2 := hNe.h2; rcases hk with h | h | h <;> omega) HW.out.1.size
          have hxw := HW.out.2.ch HC (fun e => by have h4 := hNe.h4; rcases e with h | h | h <;> omega)
          have hsl : (swapL l a0 i0).length = n := by rw [swapL_len]; exact HL.out
          have hsm := swapL_mem (i := a0) (j := i0) (by have := HN.out; omega) HLM.out
          have hih := HIH.out (a0 + 1) (swapL l a0 i0) (st j) wc (by omega) hsl hsm (HW.out.1.trans hcb) hxw HF HB
          rw [show ((a0 + 1 : Nat) : Int) = (a0 : Int) + 1 by omega, hi0.out, ← HST.out j, ← hi0.out] at hih
          have f0 := HF.f.cell 0 rfl
          unfold fillV at f0
          have HCC := hid HC
          clear HF HB HC hcb hxw hsm
          have HSL := hid hsl
          clear hsl
          go_wp2_with fail
          refine hih.mono ?_
          rintro e w3 ⟨rfl, HF, HB, HC3⟩
          have HC := HCC.out.trans HC3
          clear HC3 HCC f0 hih
          go_upto_region 7 with fail
          have HBK := hid (show swapL (swapL l a0 i0) a0 i0 = l from swapL_swap (by have := HL.out; omega) (by have := HL.out; omega))
          obtain ⟨wz, rfl⟩ : ∃ wz : World, wz = w3 := ⟨_, rfl⟩
          replace hL := HSL.out
          clear HSL
          generalize swapL l a0 i0 = L at *
          obtain ⟨x, hx⟩ : ∃ x, Hid (x = L.getD i0 0) := ⟨_, hid rfl⟩
          obtain ⟨y, hy⟩ : ∃ y, Hid (y = L.getD a0 0) := ⟨_, hid rfl⟩
          have hbd := (Below.refl wz.heap.size wz).drew
          replace HF := HF.below hbd
          replace HB := HB.drew hbd
          replace HC := HC.trans (Ch.of_below hbd)
          clear hbd
          refine wp_region_head 14 (fun w' => Bx w' bo #[.slice (some ⟨g, 0, none⟩) n cap] 35) (by kernel_rfl) rfl ?_
          generalize wz.drew = Y0 at *
          refine HeadAt.take (i := 0) (.slice (some ⟨g, 0, none⟩) n cap) rfl (by kernel_rfl) (.inl ⟨rfl, fun w' z => ?_⟩) HF.o ?_
          · (have z0 := z.cell 0 rfl; simp [go_sem, z0])
          refine HeadAt.take (i := 1) (.int .i64 (a0 : Int)) rfl (by kernel_rfl) (.inl ⟨rfl, fun _ _ => by simp [go_sem]⟩) HF.o ?_
          refine HeadAt.take (i := 2) (.slice (some ⟨g, 0, none⟩) n cap) rfl (by kernel_rfl) (.inl ⟨rfl, fun w' z => ?_⟩) HF.o ?_
          · (have z0 := z.cell 0 rfl; simp [go_sem, z0])
          refine HeadAt.take (i := 3) (.int .i64 (i0 : Int)) rfl (by kernel_rfl) (.inl ⟨rfl, fun _ _ => by simp [go_sem]⟩) HF.o ?_
          refine HeadAt.take (i := 4) (.slice (some ⟨g, 0, none⟩) n cap) rfl (by kernel_rfl) (.inl ⟨rfl, fun w' z => ?_⟩) HF.o ?_
          · (have z0 := z.cell 0 rfl; simp [go_sem, z0])
          simp only [Act.put, List.getElem_toArray, List.getElem_cons_succ, List.getElem_cons_zero, List.setIfInBounds_toArray, List.set_cons_succ, List.set_cons_zero]
          refine HeadAt.take (i := 5) (.int .i64 (i0 : Int)) rfl (by kernel_rfl) (.inl ⟨rfl, fun _ _ => by simp [go_sem]⟩) HF.o ?_
          refine HeadAt.take (i := 6) (.pointer (some ⟨g, i0, none⟩)) rfl (by kernel_rfl) (.inl ⟨rfl, fun w' z => ?_⟩) HF.o ?_
          · (simp [go_sem, hiI, hiz])
          refine HeadAt.take (i := 8) (.slice (some ⟨g, 0, none⟩) n cap) rfl (by kernel_rfl) (.inl ⟨rfl, fun w' z => ?_⟩) HF.o ?_
          · (have z0 := z.cell 0 rfl; simp [go_sem, z0])
          simp only [Act.put, List.getElem_toArray, List.getElem_cons_succ, List.getElem_cons_zero, List.setIfInBounds_toArray, List.set_cons_succ, List.set_cons_zero]
          refine HeadAt.take (i := 9) (.int .i64 (a0 : Int)) rfl (by kernel_rfl) (.inl ⟨rfl, fun _ _ => by simp [go_sem]⟩) HF.o ?_
          refine HeadAt.take (i := 10) (.pointer (some ⟨g, a0, none⟩)) rfl (by kernel_rfl) (.inl ⟨rfl, fun w' z => ?_⟩) HF.o ?_
          · (simp [go_sem, haI, haz])
          have k7 : Y0.cell? ⟨g, i0, none⟩ = some (.int .i64 x) := by rw [hx.out]; exact (row_at HF.row hL (i := i0) hii).1
          have k11 : Y0.cell? ⟨g, a0, none⟩ = some (.int .i64 y) := by rw [hy.out]; exact (row_at HF.row hL (i := a0) hai).1
          have HO := HF.o
          have HH := hid (And.intro HF (And.intro HB HC))
          clear HF HB HC
          refine HeadAt.two (i := 7) (j := 11) rfl rfl (by kernel_rfl) ?_ ?_
          · skip
            generalize hK : Upto _ _ = K0
            (try simp only [Act.put, List.getElem_toArray, List.getElem_cons_succ, List.getElem_cons_zero, List.setIfInBounds_toArray, List.set_cons_succ, List.set_cons_zero])
            go_wp2_with fail
            subst hK
            refine ⟨HO, ?_⟩
            refine HeadAt.one (i := 11) rfl (by kernel_rfl) ?_
            generalize hK : Upto _ _ = K0
            (try simp only [List.getElem_toArray, List.getElem_cons_succ, List.getElem_cons_zero])
            go_wp2_with fail
            subst hK
            refine ⟨HO, ?_⟩
            clear k7 k11
            obtain ⟨HF, HB, HC⟩ := HH.out
            clear HO HH
            refine HeadAt.take (i := 12) (.pointer (some ⟨g, a0, none⟩)) rfl (by kernel_rfl) (.inl ⟨rfl, fun w' z => ?_⟩) HF.o ?_
            · (simp [go_sem, haI, haz])
            simp only [Act.put, List.getElem_toArray, List.getElem_cons_succ, List.getElem_cons_zero, List.setIfInBounds_toArray, List.set_cons_succ, List.set_cons_zero]
            have fr1 := (row_at HF.row hL (i := a0) hai).2
            have kc1 : Y0.cell? ⟨g, a0, none⟩ = some (.int .i64 y) := by rw [hy.out]; exact (row_at HF.row hL (i := a0) hai).1
            have HF1 := HF.put hNe a0 x
            have gg1 := (row_put HF.row a0 x).2
            have HB1 := HB.keepg gg1 hNe.h3.2.1 hNe.h3.2.2
            have HC1 := HC.trans (Ch.of_grown gg1 (fun k hk => by cases hk; exact .inr (.inr rfl)) : Ch (FS bB bE g) Y0 _)
            have hL1 : (L.set a0 x).length = n := by rw [List.length_set]; exact hL
            have fr2 := (row_at HF1.row hL1 (i := i0) hii).2
            have kc2 := (row_at HF1.row hL1 (i := i0) hii).1
            have HF2 := HF1.put hNe i0 y
            have gg2 := (row_put HF1.row i0 y).2
            have HB2 := HB1.keepg gg2 hNe.h3.2.1 hNe.h3.2.2
            have HC2 := HC1.trans (Ch.of_grown gg2 (fun k hk => by cases hk; exact .inr (.inr rfl)) : Ch (FS bB bE g) _ _)
            have HZ := hid (And.intro (show FillAt B bc bv bo bf g cap n b0 bE bB (swapL L a0 i0) _ from by unfold swapL; rw [← hx.out, ← hy.out]; exact HF2) (And.intro HB2 HC2))
            have HZ1 := hid HF1.o
            clear HF HB HC HF1 gg1 HB1 HC1 HF2 gg2 HB2 HC2 hL1
            refine HeadAt.one (i := 13) rfl (by kernel_rfl) ?_
            generalize hK : Upto _ _ = K0
            (try simp only [List.getElem_toArray, List.getElem_cons_succ, List.getElem_cons_zero])
            go_wp2_with fail
            subst hK
            clear fr1 kc1
            refine ⟨HZ1.out, ?_⟩
            refine HeadAt.done (by kernel_rfl) ?_
            (try simp only [List.drop_succ_cons, List.drop_zero])
            go_wp2_with fail
            refine NoPanic.normal ?_
            obtain ⟨HF, HB, HC⟩ := HZ.out
            clear HZ
            rw [HBK.out] at HF
            have HE := hid (And.intro HF (And.intro HB HC))
            clear HF HB HC
            have HI := hid (show i0 + 1 = a0 + (j + 1) by have := hi0.out; omega)
            go_wp2
            go_roundw
            case rel => exact ⟨j + 1, i0 + 1, HI, by omega, by go_num, HE.out.1, HE.out.2.1, HE.out.2.2⟩
            case measure => simp [intOf]; omega
          · skip
            generalize hK : Upto _ _ = K0
            (try simp only [Act.put, List.getElem_toArray, List.getElem_cons_succ, List.getElem_cons_zero, List.setIfInBounds_toArray, List.set_cons_succ, List.set_cons_zero])
            go_wp2_with fail
            subst hK
            refine ⟨HO, ?_⟩
            refine HeadAt.one (i := 7) rfl (by kernel_rfl) ?_
            generalize hK : Upto _ _ = K0
            (try simp only [List.getElem_toArray, List.getElem_cons_succ, List.getElem_cons_zero])
            go_wp2_with fail
            subst hK
            refine ⟨HO, ?_⟩
            clear k7 k11
            obtain ⟨HF, HB, HC⟩ := HH.out
            clear HO HH
            refine HeadAt.take (i := 12) (.pointer (some ⟨g, a0, none⟩)) rfl (by kernel_rfl) (.inl ⟨rfl, fun w' z => ?_⟩) HF.o ?_
            · (simp [go_sem, haI, haz])
            simp only [Act.put, List.getElem_toArray, List.getElem_cons_succ, List.getElem_cons_zero, List.setIfInBounds_toArray, List.set_cons_succ, List.set_cons_zero]
            have fr1 := (row_at HF.row hL (i := a0) hai).2
            have kc1 : Y0.cell? ⟨g, a0, none⟩ = some (.int .i64 y) := by rw [hy.out]; exact (row_at HF.row hL (i := a0) hai).1
            have HF1 := HF.put hNe a0 x
            have gg1 := (row_put HF.row a0 x).2
            have HB1 := HB.keepg gg1 hNe.h3.2.1 hNe.h3.2.2
            have HC1 := HC.trans (Ch.of_grown gg1 (fun k hk => by cases hk; exact .inr (.inr rfl)) : Ch (FS bB bE g) Y0 _)
            have hL1 : (L.set a0 x).length = n := by rw [List.length_set]; exact hL
            have fr2 := (row_at HF1.row hL1 (i := i0) hii).2
            have kc2 := (row_at HF1.row hL1 (i := i0) hii).1
            have HF2 := HF1.put hNe i0 y
            have gg2 := (row_put HF1.row i0 y).2
            have HB2 := HB1.keepg gg2 hNe.h3.2.1 hNe.h3.2.2
            have HC2 := HC1.trans (Ch.of_grown gg2 (fun k hk => by cases hk; exact .inr (.inr rfl)) : Ch (FS bB bE g) _ _)
            have HZ := hid (And.intro (show FillAt B bc bv bo bf g cap n b0 bE bB (swapL L a0 i0) _ from by unfold swapL; rw [← hx.out, ← hy.out]; exact HF2) (And.intro HB2 HC2))
            have HZ1 := hid HF1.o
            clear HF HB HC HF1 gg1 HB1 HC1 HF2 gg2 HB2 HC2 hL1
            refine HeadAt.one (i := 13) rfl (by kernel_rfl) ?_
            generalize hK : Upto _ _ = K0
            (try simp only [List.getElem_toArray, List.getElem_cons_succ, List.getElem_cons_zero])
            go_wp2_with fail
            subst hK
            clear fr1 kc1
            refine ⟨HZ1.out, ?_⟩
            refine HeadAt.done (by kernel_rfl) ?_
            (try simp only [List.drop_succ_cons, List.drop_zero])
            go_wp2_with fail
            refine NoPanic.normal ?_
            obtain ⟨HF, HB, HC⟩ := HZ.out
            clear HZ
            rw [HBK.out] at HF
            have HE := hid (And.intro HF (And.intro HB HC))
            clear HF HB HC
            have HI := hid (show i0 + 1 = a0 + (j + 1) by have := hi0.out; omega)
            go_wp2
            go_roundw
            case rel => exact ⟨j + 1, i0 + 1, HI, by omega, by go_num, HE.out.1, HE.out.2.1, HE.out.2.2⟩
            case measure => simp [intOf]; omega
      · have hjd : j = d + 1 := by omega
        have hiI : (n : Int) ≤ (i0 : Int) := by have := hi0.out; omega
        rw [hjd] at HB
        have HE := hid (And.intro HF (And.intro HB HC))
        clear HF HB HC hjd
        go_wp2
        go_end0
        exact ⟨rfl, HE.out⟩
end Go.Proofs.Ytknaljghpfeikaa
