import Derived.Test.YtknaljghpfeikaaT7
import Derived.Deep.LoopGhost
namespace Go.Proofs.Ytknaljghpfeikaa
open Go.RowKit

/-- The numbers of a tray that came in. -/
structure IsTr (T : Tr) (rs ps : List (Int × Int)) (p0 way step : Int) : Prop where
  T1 : T.rcs = rs
  T2 : T.prs = ps
  T3 : T.step = step
  T4 : (T.at0 : Int) = p0
  T5 : (if T.up0 then 1 else -1 : Int) = way
  hv : VT T

set_option maxRecDepth 100000 in
set_option maxHeartbeats 4000000 in
theorem newCarriage_any (ar ap : Option Addr) (cr cp : Nat) (rs ps : List (Int × Int)) (p0 way step : Int) (w : World) (T : Tr) (hT : IsTr T rs ps p0 way step) :
    Calls Try.prog 58 #[.agg #[.slice ar rs.length cr, .int .i64 p0, .int .i64 way, .int .i64 step, .slice ap ps.length cp]] w fun e w' => Below w.heap.size w w' ∧ ∃ g : Nat, e = .returned (.pointer (some ⟨g, 0, none⟩)) ∧ w.heap.size ≤ g ∧ CarAt w' g ar ap cr cp rs ps p0 way step (.slice none 0 0) (startC T) := by
  obtain ⟨W, hW, hb, hs, x0⟩ := boxes1 w #[.slice ar rs.length cr, .int .i64 p0, .int .i64 way, .int .i64 step, .slice ap ps.length cp] 25
  have c0 := x0.cell 0 rfl; have c1 := x0.cell 1 rfl; have c2 := x0.cell 2 rfl; have c3 := x0.cell 3 rfl; have c4 := x0.cell 4 rfl
  have b2 := below_one (w := W) (.cells #[.int .i64 p0, .int .i64 way, .int .i64 (-1), .slice none 0 0, .int .i64 0, .int .i64 0] 68)
  go_enter Try.func58, Try.ntmps58
  go_wp2
  go_ret
  have hcv : carV ar ap cr cp rs ps p0 way step (.slice none 0 0) (startC T) = #[.int .i64 p0, .int .i64 way, .int .i64 (-1), .slice none 0 0, .int .i64 0, .int .i64 0, .slice ar rs.length cr, .int .i64 p0, .int .i64 way, .int .i64 step, .slice ap ps.length cp,
      .bool false, .bool false, .bool false, .bool false, .bool false, .bool false, .bool false, .bool false, .bool false, .bool false, .bool false, .bool false, .int .i64 (-1), .int .i64 0, .bool false] := by
    have e1 := hT.T4; have e2 := hT.T5
    unfold carV startC
    simp only [e1, e2]
    rfl
  refine ⟨(hb.alloc (by omega) _).alloc (by simp; omega) _, w.heap.size + 1 + 1, rfl, by omega, ?_⟩
  unfold CarAt
  rw [hcv]
  exact Bx.new' (by simp [hs]) _ _

set_option maxRecDepth 100000 in
set_option maxHeartbeats 4000000 in
theorem run_any (ar ap : Option Addr) (cr cp : Nat) (rs ps : List (Int × Int)) (p0 way step : Int) (g : Nat) (T : Tr) (hT : IsTr T rs ps p0 way step) (B : Nat) (w0 w : World) (a : Option Addr) (cv : Nat) (hc : CarAt w g ar ap cr cp rs ps p0 way step (.slice a 0 cv) (startC T))
    (hown : w.ownsRow B 39 2 (.slice a 0 cv) 0 []) (hne : (Value.slice a 0 cv).ownBlock ≠ some g) (hB : B ≤ g) (hR : Prs w0 ar rs) (hP : Prs w0 ap ps) (hb0 : Below B w0 w) (hB0 : w0.heap.size ≤ B) (b : Int) (hbm : b ≤ maxI) :
    Calls Try.prog 59 #[.pointer (some ⟨g, 0, none⟩), .int .i64 b] w (PlayP g ar ap cr cp rs ps p0 way step (runM T b) B w) := by
  obtain ⟨K, hK⟩ := run_ex hT.hv hbm
  have hrm := runM_is hK
  have hkb := hK.kb
  rw [hrm]
  have HK := hid hK
  clear hK hrm
  go_enter Try.func59, Try.ntmps59
  go_wp2
  go_loopg [] K (fun gk wr => gk ≤ K ∧ ∃ (a : Option Addr) (cv : Nat), CarAt wr g ar ap cr cp rs ps p0 way step (.slice a (iterC T (K - gk) (startC T)).plays.length cv) (iterC T (K - gk) (startC T)) ∧
    wr.ownsRow B 39 2 (.slice a (iterC T (K - gk) (startC T)).plays.length cv) (iterC T (K - gk) (startC T)).plays.length (pcells (iterC T (K - gk) (startC T)).plays) ∧ (Value.slice a (iterC T (K - gk) (startC T)).plays.length cv).ownBlock ≠ some g ∧ Below B w wr)
  case atStart => exact ⟨Nat.le_refl _, a, cv, by rw [Nat.sub_self]; exact hc, by rw [Nat.sub_self]; exact hown, by rw [Nat.sub_self]; exact hne, Below.refl _ _⟩
  case round =>
    clear hown hne hc
    obtain ⟨hgk, a, cv, hc, hown, hne, hb⟩ := hrel
    obtain ⟨j, hj⟩ : ∃ j, j = K - gk := ⟨_, rfl⟩
    rw [← hj] at hc hown hne
    have hr := HK.out.rng j (by omega)
    obtain ⟨c, hce⟩ : ∃ c, c = iterC T j (startC T) := ⟨_, rfl⟩
    rw [← hce] at hc hown hne hr
    have v24 := Bx.cell hc 24 (v := .int .i64 c.time) rfl
    have hgl := Bx.lt hc
    by_cases hg0 : gk = 0
    · have hjK : j = K := by omega
      have hout : b ≤ c.time := by rw [hce, hjK]; exact HK.out.out
      have HE := hid (show iterC T K (startC T) = c by rw [hce, hjK])
      clear hce hj hjK
      go_wp2
      go_end0
      rw [HE.out]
      exact ⟨rfl, hb, a, cv, hc, hown, hne⟩
    · have hlo : c.time < b := by rw [hce]; exact HK.out.lo j (by omega)
      have hnx : iterC T (K - (gk - 1)) (startC T) = actC T (hearC T c) := by
        rw [show K - (gk - 1) = j + 1 by omega]
        show stepC T (iterC T j (startC T)) = _
        rw [← hce]; rfl
      have hn6 := hT.hv.n6
      have hbw := hb0.trans hb
      have htb : c.time ≤ 9999 + 999 * 2700 := by
        rcases hr.tb with h | h
        · omega
        · omega
      have hst := hr.sb; have hpl := hr.pl
      have hh := hear_any ar ap cr cp rs ps p0 way step g (.slice a c.plays.length cv) c B wr hc hB w0 hP hbw hB0 T hT.T2 (fun p hp => by
        have := hT.hv.pr p (by rw [hT.T2]; exact hp)
        omega)
      have HNX := hid hnx
      have hj2 : j ≤ 2700 := by omega
      have hgp : 0 < gk := by omega
      clear hnx hce hj hg0
      go_wp2_with fail
      refine hh.mono ?_
      rintro e W1 ⟨rfl, hg1, hc1⟩
      have hb1 : Below B w W1 := hb.grown hg1 (by omega) (fun k hk => by cases hk; exact hB)
      have hat : At g ar ap cr cp rs ps p0 way step T B w0 W1 (hearC T c) a cv :=
        ⟨hc1, hown.kept hg1 (.inr hne), hne, hB, hR, hP, hb0.trans hb1, hB0, hT.T1, hT.T2, hT.T3, hT.hv, hear_inv hT.hv hr.inv, ⟨hr.t0, by show c.time ≤ _; omega⟩, by show c.steps ≤ _; omega, by show c.plays.length ≤ _; omega⟩
      have hac := act_any ar ap cr cp rs ps p0 way step g T B w0 W1 (hearC T c) a cv hat
      clear hh v24 hc hown hat hc1
      go_wp2_with fail
      refine hac.mono ?_
      rintro e W2 ⟨rfl, hb2, a2, cv2, hc2, hown2, hne2⟩
      have hb3 := hb1.trans hb2
      clear hac
      go_wp2
      go_roundg (gk - 1)
      case measure => omega
      case rel => exact ⟨by omega, a2, cv2, by rw [HNX.out]; exact hc2, by rw [HNX.out]; exact hown2, by rw [HNX.out]; exact hne2, hb3⟩
end Go.Proofs.Ytknaljghpfeikaa
