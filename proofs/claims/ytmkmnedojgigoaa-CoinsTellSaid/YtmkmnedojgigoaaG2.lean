import Derived.Test.YtmkmnedojgigoaaG1
import Derived.Test.YtmkmnedojgigoaaF4
namespace Go.Proofs.Ytmkmnedojgigoaa
open Go.RowKit

/-- The places behind some cents, in the order of the places before. -/
def bhd (R : Nat) (c : Nat) (ps : List Int) : List Int := ps.map fun p => (((p.toNat + c) % R : Nat) : Int)
theorem bhd_mem {R c : Nat} {ps : List Int} (hr : 1 ≤ R) : ∀ x ∈ bhd R c ps, 0 ≤ x ∧ x < R := by
  intro x hx
  simp only [bhd, List.mem_map] at hx
  obtain ⟨p, _, rfl⟩ := hx
  have := Nat.mod_lt (p.toNat + c) (show 0 < R by omega)
  omega

set_option maxRecDepth 100000 in
set_option maxHeartbeats 2000000 in
theorem behind_any (R : Nat) (an ac ap : Option Addr) (cn cc cp : Nat) (N C P : List Int) (a : Option Addr) (ca : Nat) (ps : List Int) (c : Nat) (w : World) (hv : Vw R N C) (hX : Ints w a ps) (hl : ps.length ≤ 200) (hp : ps.all (fun p => inR 0 p 200) = true) (hc : c ≤ 100000) :
    Calls Try.prog 88 #[.agg #[.int .i64 (R : Int), .slice an N.length cn, .slice ac C.length cc, .slice ap P.length cp], .slice a ps.length ca, .int .i64 c] w (RowPost (srt (bhd R c ps)) w) := by
  have hr1 := hv.r1
  have hr2 := hv.r2
  obtain ⟨j0, hj, jz0, jz1, jz2⟩ := info_parts info3
  obtain ⟨W, hW, hb, hs, x0⟩ := boxes1 w #[.int .i64 (R : Int), .slice an N.length cn, .slice ac C.length cc, .slice ap P.length cp] 73
  have Hs := hid hs; clear hs
  have c0 := x0.cell 0 rfl; have c1 := x0.cell 1 rfl; have c2 := x0.cell 2 rfl; have c3 := x0.cell 3 rfl
  have Hp := hid hp; clear hp
  go_enter Try.func88, Try.ntmps88
  go_wp2
  clear c0 c1 c2 c3
  go_loopw [7, 12] (fun v i wr => ∃ (n : Nat), n ≤ ps.length ∧ i = .int .i64 n ∧ wr.ownsRow (w.heap.size + 1) 3 1 v n ((bhd R c (ps.take n)).map (Value.int .i64)) ∧ Below w.heap.size w wr ∧ Bx wr w.heap.size #[.int .i64 (R : Int), .slice an N.length cn, .slice ac C.length cc, .slice ap P.length cp] 73 ∧ w.heap.size + 1 ≤ wr.heap.size) (fun _ i _ => ps.length - (intOf i).toNat)
  case atStart => exact ⟨0, Nat.zero_le _, rfl, World.ownsRow_nil _ _ _ _, hb, x0, by have := Hs.out; omega⟩
  case round =>
    clear hb x0 hW
    obtain ⟨n, hn, rfl, hown, hb, x0, hsz⟩ := hrel
    replace hX := hX.below hb (Nat.le_refl _)
    by_cases hlt : n < ps.length
    · have c0 := x0.cell 0 rfl; have c1 := x0.cell 1 rfl; have c2 := x0.cell 2 rfl; have c3 := x0.cell 3 rfl
      obtain ⟨b, off, x, rfl, hbs, hc', _, _, hx, hd⟩ := hX.at hlt
      have hxr := inR_iff.1 (all_mem (p := fun p => inR 0 p 200) Hp.out hx.out)
      have hs : bhd R c (ps.take (n + 1)) = bhd R c (ps.take n) ++ [(((x.toNat + c) % R : Nat) : Int)] := by
        rw [List.take_add_one, hx.out]; simp [bhd]
      have HS := hid hs; clear hs
      go_wp2_with fail
      refine (turned_int _ _ _ _ _ _ _ _ _ _ x c _ hv (by omega) (by omega) (by omega) (by omega)).mono ?_
      rintro e W1 ⟨rfl, hb1⟩
      rw [Int.toNat_natCast]
      obtain ⟨z, hz⟩ : ∃ z : Nat, z = (x.toNat + c) % R := ⟨_, rfl⟩
      have hzl : z < R := by rw [hz]; exact Nat.mod_lt _ (by omega)
      rw [← hz] at HS ⊢
      clear hz
      replace hown := own_below hown hb1
      replace hsz := Nat.le_trans hsz hb1.size
      replace x0 := x0.below hb1; replace hb := hb.trans (hb1.mono hb.size); clear hb1
      clear c0 c1 c2 c3
      go_wp2_with (first | (at_builtin; go_must (refine wpList_append_own _ rfl _ _ 22 rfl (w.heap.size + 1) 3 j0 (.int .i64 0) 1 8 under22 hj jz0 jz1 jz2 rfl (by decide) _ _ _ rfl (hown.alloc _) ⟨W1.heap.size, 0, none⟩ 1 1 [.int .i64 (z : Int)] rfl rfl (cell_one_new _ _ _) (ints_oneCell .i64 [(z : Int)]) (by unfold maxLen; omega) (by omega) (by simp; omega) ?_); intro v' w1 hown' hgrow _))
      have hge := own_ge hown
      have hb' : Below w.heap.size w w1 := (hb.alloc (by omega) _).grown hgrow (by simp; omega) (fun k hk => by have := hge k hk; omega)
      have x0' := (x0.alloc (.cells #[.int .i64 (z : Int)] 3)).gb hgrow (fun k hk => by have := hge k hk; omega)
      have hsz' : w.heap.size + 1 ≤ w1.heap.size := by have := hgrow.size; simp at this; omega
      clear hown hgrow x0 hb hge hsz
      go_wp2
      go_roundw
      case rel => exact ⟨n + 1, by omega, by go_num, by rw [HS.out]; simpa using hown', hb', x0', hsz'⟩
      case measure => simp [intOf]; omega
    · obtain rfl : n = ps.length := by omega
      rw [List.take_of_length_le (Nat.le_refl _)] at hown
      have hlen : (bhd R c ps).length = ps.length := by simp [bhd]
      rw [← hlen] at hown
      have hS := sort_own hown (by omega)
      have Hlen := hid hlen; clear hlen
      go_wp2_with fail
      refine hS.mono ?_
      rintro e W1 ⟨rfl, hown1, row, hg, hrow⟩
      have hb1 := hb.grown hg hb.size (fun k hk => by have := hrow k hk; omega)
      clear hS hown hg hrow hb x0 hX
      go_wp2
      go_ret
      obtain ⟨a, ca, he, hi⟩ := Ints.of_own hown1 (by rw [srt_len, Hlen.out]; omega) (fun x hx => by have := bhd_mem (c := c) (ps := ps) hr1 x ((srt_mem _ _).1 hx); omega)
      rw [srt_len, Hlen.out] at he
      subst he
      exact ⟨hb1, a, ca, by rw [srt_len, Hlen.out]; rfl, hi, fun x hx => by have := own_new hown1 x hx; omega⟩
end Go.Proofs.Ytmkmnedojgigoaa
