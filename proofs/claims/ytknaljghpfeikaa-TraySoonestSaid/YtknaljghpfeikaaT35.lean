import Derived.Test.YtknaljghpfeikaaT34
import Derived.Laws.EntriesVeiled
namespace Go.Proofs.Ytknaljghpfeikaa
open Go.RowKit

/-- The numbers from 0 on. -/
def idL (n : Nat) : List Int := (List.range n).map fun (k : Nat) => (k : Int)
theorem idL_len (n : Nat) : (idL n).length = n := by simp [idL]
theorem idL_snoc (n : Nat) : idL (n + 1) = idL n ++ [(n : Int)] := by simp [idL, List.range_succ]
theorem idL_mem (n : Nat) : ∀ x ∈ idL n, 0 ≤ x ∧ x < (n : Int) := fun x hx => by
  simp [idL] at hx
  obtain ⟨k, hk, rfl⟩ := hx
  omega
def bestM (T : Tr) (E : Int) : List Int × Int := (perms T.rcs.length 0 (idL T.rcs.length)).foldl (visB T) ([], E)
def EachP (n B bB bE : Nat) (s : List Int × Int) (w : World) (e : Ending) (w' : World) : Prop :=
  e = .returned (.tuple #[]) ∧ (∃ g, BestAt g B bB bE s w') ∧ Ch (fun k => k = bB ∨ k = bE) w w' ∧ n = n

/-- eachOrder's first loop. -/
structure EachR (b0 bE bB n : Nat) (w : World) (k : Nat) (wr : World) : Prop where
  xc : Bx wr w.heap.size #[.int .i64 (n : Int)] 3
  xv : Bx wr (w.heap.size + 1) #[.func (.func 80) #[] #[.pointer (some ⟨b0, 0, none⟩), .pointer (some ⟨bE, 0, none⟩), .pointer (some ⟨bB, 0, none⟩)]] 103
  ex : ∃ (a : Option Addr) (c : Nat), Bx wr (w.heap.size + 1 + 1) #[.slice a k c] 35 ∧ wr.ownsRow (w.heap.size + 1 + 1 + 1) 3 1 (.slice a k c) k ((idL k).map (Value.int .i64))
  hb : Below w.heap.size w wr
  hsz : w.heap.size + 1 + 1 + 1 ≤ wr.heap.size
theorem each_step {b0 bE bB n : Nat} {w : World} {k : Nat} {wr W5 : World} (h : EachR b0 bE bB n w k wr) {a : Option Addr} {c : Nat} {v5 : Value} (xo : Bx wr (w.heap.size + 1 + 1) #[.slice a k c] 35) (own : wr.ownsRow (w.heap.size + 1 + 1 + 1) 3 1 (.slice a k c) k ((idL k).map (Value.int .i64)))
    (hown5 : W5.ownsRow (w.heap.size + 1 + 1 + 1) 3 1 v5 (k + 1) ((idL k).map (Value.int .i64) ++ [.int .i64 (k : Int)])) (hg5 : (wr.alloc (.cells #[.int .i64 (k : Int)] 3)).grownBy W5 (Value.slice a k c).ownBlock) :
    ∃ (a5 : Option Addr) (c5 : Nat), v5 = .slice a5 (k + 1) c5 ∧ W5.frozen? ⟨w.heap.size + 1 + 1, 0, none⟩ = false ∧ W5.cell? ⟨w.heap.size + 1 + 1, 0, none⟩ = some (.slice a k c) ∧ Hid (EachR b0 bE bB n w (k + 1) (W5.setCell ⟨w.heap.size + 1 + 1, 0, none⟩ (.slice a5 (k + 1) c5))) := by
  obtain ⟨xc, xv, _, hb, hsz⟩ := h
  have hb1 := below_one (w := wr) (.cells #[.int .i64 (k : Int)] 3)
  have own4 := own_below2 own hb1
  have hb4 := hb.trans (hb1.mono hb.size)
  obtain ⟨a5, c5, rfl⟩ := own_slice2 hown5
  have hge := own_ge2 own4
  have xc5 := (xc.below hb1).gb hg5 (fun k hk e => by have := hge k hk; omega)
  have xv5 := (xv.below hb1).gb hg5 (fun k hk e => by have := hge k hk; omega)
  have xo5 := (xo.below hb1).gb hg5 (fun k hk e => by have := hge k hk; omega)
  have hb5 := hb4.grown hg5 (by have := hb4.size; omega) (fun k hk => by have := hge k hk; omega)
  have gs := gset W5 ⟨w.heap.size + 1 + 1, 0, none⟩ (.slice a5 (k + 1) c5)
  have hs5 := hg5.size
  have hs4 := hb1.size
  refine ⟨a5, c5, rfl, xo5.free 0, xo5.cell 0 rfl, hid ⟨xc5.gb gs (fun k hk => by cases hk; show w.heap.size ≠ w.heap.size + 1 + 1; omega), xv5.gb gs (fun k hk => by cases hk; show w.heap.size + 1 ≠ w.heap.size + 1 + 1; omega),
          ⟨a5, c5, xo5.set 0 _, by
            rw [idL_snoc, List.map_append]
            exact own_keep hown5 gs (fun k hk e => by have h1 := own_ge2 hown5 k hk; injection e with e; have e' : w.heap.size + 1 + 1 = k := e; omega)⟩,
          hb5.grown gs (by have := hb5.size; omega) (fun k hk => by cases hk; show w.heap.size ≤ w.heap.size + 1 + 1; omega), by have := gs.size; omega⟩⟩

set_option maxRecDepth 100000 in
set_option maxHeartbeats 6000000 in
theorem each_any (ar ap : Option Addr) (cr cp : Nat) (rs ps : List (Int × Int)) (p0 way step : Int) (T : Tr) (hT : IsTr T rs ps p0 way step) (hpl : ps.length ≤ 12) (b0 bE bB n : Nat) (w0 w : World) (E : Int) (hR : Prs w0 ar rs) (hP : Prs w0 ap ps) (hb0 : Below w0.heap.size w0 w) (hn : n = rs.length)
    (hx : Bx w b0 #[.slice ar rs.length cr, .int .i64 p0, .int .i64 way, .int .i64 step, .slice ap ps.length cp] 25) (hE : Bx w bE #[.int .i64 E] 3) (hB : Bx w bB #[.slice none 0 0] 35) (hne : b0 ≠ bB ∧ b0 ≠ bE ∧ bB ≠ bE ∧ w0.heap.size ≤ bB ∧ w0.heap.size ≤ bE) (hEb : -9223372036854775808 ≤ E ∧ E ≤ 9223372036854775807) :
    Calls Try.prog 79 #[.int .i64 (n : Int), .func (.func 80) #[] #[.pointer (some ⟨b0, 0, none⟩), .pointer (some ⟨bE, 0, none⟩), .pointer (some ⟨bB, 0, none⟩)]] w (EachP n w0.heap.size bB bE (bestM T E) w) := by
  obtain ⟨i0, hi0, iz0, iz1, iz2⟩ := info_parts info3i
  have hn6 := hT.hv.n6
  have hn1 := hT.hv.n1
  have hbm : bestM T E = (perms n 0 (idL n)).foldl (visB T) ([], E) := by unfold bestM; rw [hT.T1, ← hn]
  rw [hT.T1, ← hn] at hn6 hn1
  rw [hbm]
  clear hbm
  have hnI : (n : Int) ≤ 6 := by omega
  have HN := hid hn
  obtain ⟨W, hW, hb, hs, xc, xv⟩ := boxes2 w #[.int .i64 (n : Int)] 3 #[visV b0 bE bB] 103
  obtain ⟨W1, hW1, hb1, hs1, xo⟩ := boxes1 W #[.slice none 0 0] 35
  rw [hs] at hs1 xo
  replace xc := xc.below hb1
  replace xv := xv.below hb1
  replace hb := hb.trans (hb1.mono hb.size)
  unfold visV at hW xv
  have kc := xc.cell 0 rfl
  have HH := hid (And.intro xc (And.intro xv (And.intro xo (And.intro hb hs1))))
  clear xc xv xo hb hb1 hs1 hn
  go_enter Try.func79, Try.ntmps79
  go_wp2
  clear kc
  go_loopw [8] (fun v8 wr => ∃ k : Nat, k ≤ n ∧ v8 = .int .i64 (k : Int) ∧ EachR b0 bE bB n w k wr) (fun v8 _ => n - (intOf v8).toNat)
  case atStart => exact ⟨0, Nat.zero_le _, rfl, HH.out.1, HH.out.2.1, ⟨none, 0, HH.out.2.2.1, World.ownsRow_nil _ _ _ _⟩, HH.out.2.2.2.1, by have := HH.out.2.2.2.2; omega⟩
  case round =>
    clear HH
    obtain ⟨k, hk, rfl, HR⟩ := hrel
    have hR0 := HR
    obtain ⟨xc, xv, ⟨a, c, xo, own⟩, hb, hsz⟩ := HR
    by_cases hlt : k < n
    · have hkI : (k : Int) < (n : Int) := by omega
      have hk0 : (0 : Int) ≤ (k : Int) := by omega
      have ko := xo.cell 0 rfl
      have hb1 := below_one (w := wr) (.cells #[.int .i64 (k : Int)] 3)
      have own4 := own_below2 own hb1
      have hcl := Cls.of_bx (Bx.new wr #[.int .i64 (k : Int)] 3)
      have hs4 := hb1.size
      have HX := hid (And.intro hR0 (And.intro xo own))
      clear hR0 xc xv xo own hb hb1
      go_wp2_with (at_builtin; refine wpList_appAt rfl (.tmp 11) (.tmp 13) 35 rfl (w.heap.size + 1 + 1 + 1) 3 i0 (.int .i64 0) 1 8 under35 hi0 iz0 iz1 iz2 rfl (by decide) (.slice a k c) k _ rfl own4 (some ⟨wr.heap.size, 0, none⟩) 1 1 [.int .i64 (k : Int)] rfl rfl hcl (by simp; rfl) (by unfold maxLen; omega) (by omega) (by omega) ?_; intro v5 W5 hown5 hg5 hat; obtain ⟨a5, c5, rfl, fo, ko5, HF⟩ := each_step HX.out.1 HX.out.2.1 HX.out.2.2 hown5 hg5; clear hown5 hg5 hat)
      go_roundw
      case rel => exact ⟨k + 1, by omega, by go_num, HF.out⟩
      case measure => simp [intOf]; omega
    · obtain rfl : k = n := by omega
      obtain ⟨g, cap, e, hg3⟩ : ∃ g cap, Value.slice a k c = .slice (some ⟨g, 0, none⟩) k cap ∧ w.heap.size + 1 + 1 + 1 ≤ g := by
        rcases own.2 with ⟨_, h0⟩ | ⟨g, cap, cur, e, hge, _⟩
        · omega
        · exact ⟨g, cap, e, hge⟩
      simp only [Value.slice.injEq, true_and] at e
      obtain ⟨rfl, rfl⟩ := e
      have hEl := hE.lt
      have hBl := hB.lt
      have hxl := hx.lt
      have b2 := below_one (w := wr) (.cells #[fillV w.heap.size (w.heap.size + 1) (w.heap.size + 1 + 1) wr.heap.size] 75)
      have hbw := hb.trans (b2.mono hb.size)
      have hNe : FillNe w0.heap.size w.heap.size (w.heap.size + 1) (w.heap.size + 1 + 1) wr.heap.size g b0 bE bB w0.heap.size := by
        have h0 := hb0.size
        have hs0 := hb.size
        have hgl := own_lt own g rfl
        exact ⟨by omega, by omega, by omega, by omega, by omega, by omega, by omega, by omega⟩
      have hFA : FillAt w0.heap.size w.heap.size (w.heap.size + 1) (w.heap.size + 1 + 1) wr.heap.size g c k b0 bE bB (idL k) (wr.alloc (.cells #[fillV w.heap.size (w.heap.size + 1) (w.heap.size + 1 + 1) wr.heap.size] 75)) :=
        ⟨xc.below b2, xv.below b2, xo.below b2, Bx.new wr _ 75, own_base (own_below2 own b2) (by have := hb0.size; omega)⟩
      have hBA : BestAt g w0.heap.size bB bE ([], E) (wr.alloc (.cells #[fillV w.heap.size (w.heap.size + 1) (w.heap.size + 1 + 1) wr.heap.size] 75)) :=
        ⟨hE.below hbw, hEb.1, hEb.2, by simp, .slice none 0 0, hB.below hbw, World.ownsRow_nil _ _ _ _, fun k hk => by simp [Value.ownBlock] at hk⟩
      have hfill := fill_any ar ap cr cp rs ps p0 way step T hT hpl w0.heap.size w.heap.size (w.heap.size + 1) (w.heap.size + 1 + 1) wr.heap.size g c k b0 bE bB w0 hR hP hNe HN.out k 0 (idL k) ([], E) (wr.alloc (.cells #[fillV w.heap.size (w.heap.size + 1) (w.heap.size + 1 + 1) wr.heap.size] 75)) (by omega) (idL_len k) (by have := idL_mem k; rw [HN.out] at this ⊢; exact this) (hb0.trans (hbw.mono hb0.size)) (hx.below hbw) hFA hBA
      rw [show (((0 : Nat)) : Int) = 0 from rfl] at hfill
      have HBW := hid hbw
      have HC0 := hid (show w.heap.size ≤ g by omega)
      clear hFA hBA hNe b2 hbw hEl hBl hxl hR0 xc xv xo own hb hsz hE hB hx
      unfold fillV at hfill HBW
      go_wp2_with fail
      refine hfill.mono ?_
      rintro e W3 ⟨rfl, HF, HB, HC⟩
      have HX := hid (show (∃ g, BestAt g w0.heap.size bB bE ((perms k 0 (idL k)).foldl (visB T) ([], E)) W3) ∧ Ch (fun k => k = bB ∨ k = bE) w W3 from
        ⟨⟨g, HB⟩, HC.os.trans HBW.out.os, HC.tape.trans HBW.out.tape, HC.output.trans HBW.out.output, Nat.le_trans HBW.out.size HC.size, fun i hi hn =>
          (HC.block i (Nat.lt_of_lt_of_le hi HBW.out.size) (fun h => by have := HC0.out; rcases h with h | h | h; exact hn (.inl h); exact hn (.inr h); omega)).trans (HBW.out.block i hi)⟩)
      clear HF HB HC hfill HBW
      go_wp2
      go_end0
      exact ⟨rfl, HX.out.1, HX.out.2, rfl⟩

def BestP (T : Tr) (w : World) (e : Ending) (w' : World) : Prop :=
  Below w.heap.size w w' ∧ ∃ v, e = .returned (.tuple #[v, .int .i64 (bestM T maxI).2]) ∧ w'.ownsRow w.heap.size 3 1 v (bestM T maxI).1.length ((bestM T maxI).1.map (Value.int .i64))

set_option maxRecDepth 100000 in
set_option maxHeartbeats 6000000 in
theorem bestOrder_any (ar ap : Option Addr) (cr cp : Nat) (rs ps : List (Int × Int)) (p0 way step : Int) (w : World) (hR : Prs w ar rs) (hP : Prs w ap ps) (T : Tr) (hT : IsTr T rs ps p0 way step) (hpl : ps.length ≤ 12) : Calls Try.prog 63 #[.agg #[.slice ar rs.length cr, .int .i64 p0, .int .i64 way, .int .i64 step, .slice ap ps.length cp]] w (BestP T w) := by
  have hn6 := hT.hv.n6
  rw [hT.T1] at hn6
  have hnI : (rs.length : Int) ≤ 6 := by omega
  obtain ⟨W, hW, hb, hs, x0, xB, xE⟩ := boxes3 w #[.slice ar rs.length cr, .int .i64 p0, .int .i64 way, .int .i64 step, .slice ap ps.length cp] 25 #[.slice none 0 0] 35 #[.int .i64 9223372036854775807] 3
  have hea := each_any ar ap cr cp rs ps p0 way step T hT hpl w.heap.size (w.heap.size + 1 + 1) (w.heap.size + 1) rs.length w W 9223372036854775807 hR hP hb rfl x0 xE xB (by omega) (by omega)
  have em : bestM T 9223372036854775807 = bestM T maxI := rfl
  rw [em] at hea
  unfold BestP
  generalize bestM T maxI = s at *
  have HX0 := hid (And.intro hb hs)
  have c0 := x0.cell 0 rfl; have c1 := x0.cell 1 rfl; have c2 := x0.cell 2 rfl; have c3 := x0.cell 3 rfl; have c4 := x0.cell 4 rfl
  clear em x0 xB xE hb hs
  go_enter Try.func63, Try.ntmps63
  go_wp2_with fail
  refine hea.mono ?_
  clear hea c0 c1 c2 c3 c4
  rintro e W2 ⟨rfl, ⟨g, hE, a1, a2, a3, v, hB, hrow, hv⟩, hC, -⟩
  obtain ⟨best, q⟩ := s
  dsimp only at hE a1 a2 a3 hrow ⊢
  obtain ⟨av, cv, rfl⟩ := own_slice2 hrow
  obtain ⟨m, hm⟩ : ∃ m, m = best.length := ⟨_, rfl⟩
  rw [← hm] at hB hrow hv
  have HM := hid hm
  clear hm
  have hbW : Below w.heap.size w W2 := HX0.out.1.trans (hC.to_below (fun k hk => by rcases hk with h | h <;> omega) HX0.out.1.size)
  have hE1 := hE.lt; have hB1 := hB.lt
  go_upto_region 3 with fail
  have hbd := (Below.refl W2.heap.size W2).drew
  have hBd := hB.below hbd; have hEd := hE.below hbd; have hrd := own_below2 hrow hbd
  have hb := hbW.trans (hbd.mono hbW.size)
  clear hB hE hrow hbW hbd hC
  refine wp_region_head 3 (fun w' => Bx w' (w.heap.size + 1) #[.slice av m cv] 35 ∧ Bx w' (w.heap.size + 1 + 1) #[.int .i64 q] 3) (by kernel_rfl) rfl ?_
  generalize W2.drew = Y0 at *
  have S0 := And.intro hBd hEd
  refine HeadAt.take (i := 0) (.slice av m cv) rfl (by kernel_rfl) (.inl ⟨rfl, fun w' z => ?_⟩) S0 ?_
  · (have z0 := z.1.cell 0 rfl; simp [go_sem, z0])
  refine HeadAt.take (i := 1) (.int .i64 q) rfl (by kernel_rfl) (.inl ⟨rfl, fun w' z => ?_⟩) S0 ?_
  · (have z0 := z.2.cell 0 rfl; simp [go_sem, z0])
  have fB := hBd.free 0; have kB := hBd.cell 0 rfl
  have gB := gset Y0 ⟨w.heap.size + 1, 0, none⟩ (.slice av m cv)
  have hB2 : Bx (Y0.setCell ⟨w.heap.size + 1, 0, none⟩ (.slice av m cv)) (w.heap.size + 1) #[.slice av m cv] 35 := hBd.set 0 _
  have hE2 := hEd.gb gB (fun k hk => by cases hk; show w.heap.size + 1 + 1 ≠ w.heap.size + 1; omega)
  have fE := hE2.free 0; have kE := hE2.cell 0 rfl
  have gE := gset (Y0.setCell ⟨w.heap.size + 1, 0, none⟩ (.slice av m cv)) ⟨w.heap.size + 1 + 1, 0, none⟩ (.int .i64 q)
  have hB3 := hB2.gb gE (fun k hk => by cases hk; show w.heap.size + 1 ≠ w.heap.size + 1 + 1; omega)
  have hE3 : Bx ((Y0.setCell ⟨w.heap.size + 1, 0, none⟩ (.slice av m cv)).setCell ⟨w.heap.size + 1 + 1, 0, none⟩ (.int .i64 q)) (w.heap.size + 1 + 1) #[.int .i64 q] 3 := hE2.set 0 _
  have hr3 := own_keep (own_keep hrd gB (fun k hk e => by have := (hv k hk).2.1; injection e with e; have e' : w.heap.size + 1 = k := e; omega)) gE (fun k hk e => by have := (hv k hk).2.2; injection e with e; have e' : w.heap.size + 1 + 1 = k := e; omega)
  have hb3 := (hb.grown gB hb.size (fun k hk => by cases hk; show w.heap.size ≤ w.heap.size + 1; omega)).grown gE (Nat.le_trans hb.size gB.size) (fun k hk => by cases hk; show w.heap.size ≤ w.heap.size + 1 + 1; omega)
  have r0 := hB3.cell 0 rfl; have r1 := hE3.cell 0 rfl
  have HX := hid (And.intro hb3 hr3)
  have HS2 := hid (And.intro hB2 hE2)
  clear hB3 hE3 hr3 hb3 gE hE2 hB2 gB hBd hEd hrd hb S0 HX0
  refine HeadAt.one (i := 2) rfl (by kernel_rfl) ?_
  generalize hK : Upto _ _ = K0
  (try simp only [Act.put, List.getElem_toArray, List.getElem_cons_succ, List.getElem_cons_zero, List.setIfInBounds_toArray, List.set_cons_succ, List.set_cons_zero])
  go_wp2_with fail
  subst hK
  refine ⟨HS2.out, ?_⟩
  refine HeadAt.done (by kernel_rfl) ?_
  (try simp only [List.drop_succ_cons, List.drop_zero])
  clear HS2
  go_wp2_with fail
  refine NoPanic.normal ?_
  go_wp2
  refine bodyPost_ret (v := .tuple #[.slice av m cv, .int .i64 q]) ?_ rfl ⟨HX.out.1, _, rfl, by show World.ownsRow _ _ 3 1 _ best.length _; rw [← HM.out]; exact HX.out.2⟩
  simp [results, Try.results63, go_sem, r0, r1]
end Go.Proofs.Ytknaljghpfeikaa
