import Derived.Test.YtknaljghpfeikaaT53
import Derived.Test.YtknaljghpfeikaaM13
namespace Go.Proofs.Ytknaljghpfeikaa
open Go.RowKit

/-- The cells of events. -/
def ecell (e : Ev) : List Value := [.int .i64 e.fr, .int .i64 e.til, .int .i64 e.pos, .int .i64 e.way, .int .i64 e.side]
def ecells (E : List Ev) : List Value := E.flatMap ecell
theorem ecells_cons (x : Ev) (E : List Ev) : ecells (x :: E) = .int .i64 x.fr :: .int .i64 x.til :: .int .i64 x.pos :: .int .i64 x.way :: .int .i64 x.side :: ecells E := rfl
theorem ecells_snoc (E : List Ev) (x : Ev) : ecells (E ++ [x]) = ecells E ++ ecell x := by simp [ecells]
theorem ecells_at : ∀ (E : List Ev) (i : Nat) (x : Ev), E[i]? = some x → (ecells E)[i * 5]? = some (.int .i64 x.fr) ∧ (ecells E)[i * 5 + 1]? = some (.int .i64 x.til) ∧ (ecells E)[i * 5 + 2]? = some (.int .i64 x.pos) ∧ (ecells E)[i * 5 + 3]? = some (.int .i64 x.way) ∧ (ecells E)[i * 5 + 4]? = some (.int .i64 x.side)
  | [], i, x, h => by simp at h
  | y :: E, 0, x, h => by
    simp at h
    subst h
    exact ⟨rfl, rfl, rfl, rfl, rfl⟩
  | y :: E, i + 1, x, h => by
    have := ecells_at E i x (by simpa using h)
    rw [ecells_cons, show (i + 1) * 5 = i * 5 + 1 + 1 + 1 + 1 + 1 by omega]
    refine ⟨by simpa using this.1, ?_, ?_, ?_, ?_⟩
    · rw [show i * 5 + 1 + 1 + 1 + 1 + 1 + 1 = (i * 5 + 1) + 1 + 1 + 1 + 1 + 1 by omega]
      simpa only [List.getElem?_cons_succ] using this.2.1
    · rw [show i * 5 + 1 + 1 + 1 + 1 + 1 + 2 = (i * 5 + 2) + 1 + 1 + 1 + 1 + 1 by omega]
      simpa only [List.getElem?_cons_succ] using this.2.2.1
    · rw [show i * 5 + 1 + 1 + 1 + 1 + 1 + 3 = (i * 5 + 3) + 1 + 1 + 1 + 1 + 1 by omega]
      simpa only [List.getElem?_cons_succ] using this.2.2.2.1
    · rw [show i * 5 + 1 + 1 + 1 + 1 + 1 + 4 = (i * 5 + 4) + 1 + 1 + 1 + 1 + 1 by omega]
      simpa only [List.getElem?_cons_succ] using this.2.2.2.2
/-- A slice that reads as events. -/
def Evs (w : World) (a : Option Addr) (E : List Ev) : Prop :=
  E.length ≤ 100000 ∧ ∀ i x, E[i]? = some x → ∃ b off, a = some ⟨b, off, none⟩ ∧ b < w.heap.size ∧ w.cell? ⟨b, off + i * 5, none⟩ = some (.int .i64 x.fr) ∧ w.cell? ⟨b, off + i * 5 + 1, none⟩ = some (.int .i64 x.til) ∧ w.cell? ⟨b, off + i * 5 + 2, none⟩ = some (.int .i64 x.pos) ∧ w.cell? ⟨b, off + i * 5 + 3, none⟩ = some (.int .i64 x.way) ∧ w.cell? ⟨b, off + i * 5 + 4, none⟩ = some (.int .i64 x.side)
theorem Evs.below {w w' : World} {a : Option Addr} {E : List Ev} (h : Evs w a E) {B : Nat} (hb : Below B w w') (hB : w.heap.size ≤ B) : Evs w' a E := by
  refine ⟨h.1, fun i x hx => ?_⟩
  obtain ⟨b, off, ha, hbs, c0, c1, c2, c3, c4⟩ := h.2 i x hx
  have hs := hb.size
  have hk : ∀ o, w'.cell? ⟨b, o, none⟩ = w.cell? ⟨b, o, none⟩ := fun o => hb.cell (p := ⟨b, o, none⟩) (by show b < B; omega)
  exact ⟨b, off, ha, by omega, by rw [hk]; exact c0, by rw [hk]; exact c1, by rw [hk]; exact c2, by rw [hk]; exact c3, by rw [hk]; exact c4⟩
theorem Evs.of_own {w : World} {B n c : Nat} {e : TypeId} {a : Option Addr} {E : List Ev} (h : w.ownsRow B e 5 (.slice a n c) n (ecells E)) (hn : E.length = n) (hl : n ≤ 100000) : Evs w a E := by
  refine ⟨by omega, fun i x hx => ?_⟩
  have hil : i < E.length := by
    rcases Nat.lt_or_ge i E.length with h1 | h1
    · exact h1
    · rw [List.getElem?_eq_none h1] at hx; cases hx
  rcases h.2 with ⟨_, h0⟩ | ⟨g, cap, cur, e1, _, hg, _⟩
  · omega
  · simp only [Value.slice.injEq, true_and] at e1
    obtain ⟨rfl, rfl⟩ := e1
    obtain ⟨p0, p1, p2, p3, p4⟩ := ecells_at E i x hx
    refine ⟨g, 0, rfl, (Array.getElem?_eq_some_iff.1 hg).1, ?_⟩
    rw [Nat.zero_add, World.ownsRow.cellAt h (i * 5) (by omega), World.ownsRow.cellAt h (i * 5 + 1) (by omega), World.ownsRow.cellAt h (i * 5 + 2) (by omega), World.ownsRow.cellAt h (i * 5 + 3) (by omega), World.ownsRow.cellAt h (i * 5 + 4) (by omega)]
    exact ⟨p0, p1, p2, p3, p4⟩
/-- Two slices in different blocks. -/
def Dj (v u : Value) : Prop := ∀ k, v.ownBlock = some k → u.ownBlock ≠ some k
theorem Dj.symm {v u : Value} (h : Dj v u) : Dj u v := fun k h1 h2 => h k h2 h1
theorem Dj.nil (v : Value) (n c : Nat) : Dj v (.slice none n c) := fun k _ h => by simp [Value.ownBlock] at h
theorem Dj.at {w : World} {u v v' : Value} (h : Dj u v) (hl : ∀ k, u.ownBlock = some k → k < w.heap.size) (hat : v'.ownBlock = v.ownBlock ∨ v'.ownBlock = some w.heap.size) : Dj u v' := fun k h1 h2 => by
  rcases hat with e | e
  · exact h k h1 (by rw [← e]; exact h2)
  · rw [e] at h2
    injection h2 with h2
    have := hl k h1
    omega
theorem own_dj {w w' : World} {B size : Nat} {e : TypeId} {u v : Value} {n : Nat} {xs : List Value} (h : w.ownsRow B e size u n xs) (hg : w.grownBy w' v.ownBlock) (hd : Dj u v) : w'.ownsRow B e size u n xs := by
  refine h.kept hg ?_
  cases hu : u.ownBlock with
  | none => exact .inl rfl
  | some k => exact .inr fun e => hd k hu e.symm
/-- The reference at work: its four rows (events, pins, flags, pins that are left), the tray's box. -/
structure RfR (b B m : Nat) (ar ap : Option Addr) (cr cp n : Nat) (p0 way step : Int) (w : World) (v3 v4 v5 v6 : Value) (n3 n4 n6 : Nat) (E : List Ev) (PL F LL : List Int) (wr : World) : Prop where
  x1 : Bx wr b #[.slice ar n cr, .int .i64 p0, .int .i64 way, .int .i64 step, .slice ap m cp] 25
  own3 : wr.ownsRow B 90 5 v3 n3 (ecells E)
  own4 : wr.ownsRow B 3 1 v4 n4 (PL.map (Value.int .i64))
  own5 : wr.ownsRow B 3 1 v5 m (F.map (Value.int .i64))
  own6 : wr.ownsRow B 3 1 v6 n6 (LL.map (Value.int .i64))
  d34 : Dj v3 v4
  d35 : Dj v3 v5
  d36 : Dj v3 v6
  d45 : Dj v4 v5
  d46 : Dj v4 v6
  d56 : Dj v5 v6
  bB : b < B
  wB : w.heap.size ≤ b
  hb : Below w.heap.size w wr
section
variable {b B m : Nat} {ar ap : Option Addr} {cr cp n : Nat} {p0 way step : Int} {w : World} {v3 v4 v5 v6 : Value} {n3 n4 n6 : Nat} {E : List Ev} {PL F LL : List Int} {wr wr' : World}
theorem RfR.below (h : RfR b B m ar ap cr cp n p0 way step w v3 v4 v5 v6 n3 n4 n6 E PL F LL wr) (hb : Below wr.heap.size wr wr') : RfR b B m ar ap cr cp n p0 way step w v3 v4 v5 v6 n3 n4 n6 E PL F LL wr' :=
  ⟨h.x1.below hb, own_below2 h.own3 hb, own_below2 h.own4 hb, own_below2 h.own5 hb, own_below2 h.own6 hb, h.d34, h.d35, h.d36, h.d45, h.d46, h.d56, h.bB, h.wB, h.hb.trans (hb.mono h.hb.size)⟩
theorem RfR.bx {v : Value} {e : TypeId} {size k : Nat} {xs : List Value} (h : RfR b B m ar ap cr cp n p0 way step w v3 v4 v5 v6 n3 n4 n6 E PL F LL wr) (hg : wr.grownBy wr' v.ownBlock) (ho : wr.ownsRow B e size v k xs) :
    Bx wr' b #[.slice ar n cr, .int .i64 p0, .int .i64 way, .int .i64 step, .slice ap m cp] 25 ∧ Below w.heap.size w wr' := by
  have hB := h.bB
  have hw := h.wB
  exact ⟨h.x1.gb hg (fun k hk e => by have := own_ge2 ho k hk; omega), h.hb.grown hg h.hb.size (fun k hk => by have := own_ge2 ho k hk; omega)⟩
theorem RfR.put3 {v : Value} {k : Nat} {E' : List Ev} (h : RfR b B m ar ap cr cp n p0 way step w v3 v4 v5 v6 n3 n4 n6 E PL F LL wr) (hg : wr.grownBy wr' v3.ownBlock) (ho : wr'.ownsRow B 90 5 v k (ecells E')) (hat : v.ownBlock = v3.ownBlock ∨ v.ownBlock = some wr.heap.size) :
    RfR b B m ar ap cr cp n p0 way step w v v4 v5 v6 k n4 n6 E' PL F LL wr' := by
  obtain ⟨h1, h2⟩ := h.bx hg h.own3
  exact ⟨h1, ho, own_dj h.own4 hg h.d34.symm, own_dj h.own5 hg h.d35.symm, own_dj h.own6 hg h.d36.symm, (h.d34.symm.at (own_lt h.own4) hat).symm, (h.d35.symm.at (own_lt h.own5) hat).symm, (h.d36.symm.at (own_lt h.own6) hat).symm, h.d45, h.d46, h.d56, h.bB, h.wB, h2⟩
theorem RfR.put4 {v : Value} {k : Nat} {PL' : List Int} (h : RfR b B m ar ap cr cp n p0 way step w v3 v4 v5 v6 n3 n4 n6 E PL F LL wr) (hg : wr.grownBy wr' v4.ownBlock) (ho : wr'.ownsRow B 3 1 v k (PL'.map (Value.int .i64))) (hat : v.ownBlock = v4.ownBlock ∨ v.ownBlock = some wr.heap.size) :
    RfR b B m ar ap cr cp n p0 way step w v3 v v5 v6 n3 k n6 E PL' F LL wr' := by
  obtain ⟨h1, h2⟩ := h.bx hg h.own4
  exact ⟨h1, own_dj h.own3 hg h.d34, ho, own_dj h.own5 hg h.d45.symm, own_dj h.own6 hg h.d46.symm, h.d34.at (own_lt h.own3) hat, h.d35, h.d36, (h.d45.symm.at (own_lt h.own5) hat).symm, (h.d46.symm.at (own_lt h.own6) hat).symm, h.d56, h.bB, h.wB, h2⟩
theorem RfR.put5 {F' : List Int} (h : RfR b B m ar ap cr cp n p0 way step w v3 v4 v5 v6 n3 n4 n6 E PL F LL wr) (hg : wr.grownBy wr' v5.ownBlock) (ho : wr'.ownsRow B 3 1 v5 m (F'.map (Value.int .i64))) :
    RfR b B m ar ap cr cp n p0 way step w v3 v4 v5 v6 n3 n4 n6 E PL F' LL wr' := by
  obtain ⟨h1, h2⟩ := h.bx hg h.own5
  exact ⟨h1, own_dj h.own3 hg h.d35, own_dj h.own4 hg h.d45, ho, own_dj h.own6 hg h.d56.symm, h.d34, h.d35, h.d36, h.d45, h.d46, h.d56, h.bB, h.wB, h2⟩
theorem RfR.put6 {v : Value} {k : Nat} {LL' : List Int} (h : RfR b B m ar ap cr cp n p0 way step w v3 v4 v5 v6 n3 n4 n6 E PL F LL wr) (hg : wr.grownBy wr' v6.ownBlock) (ho : wr'.ownsRow B 3 1 v k (LL'.map (Value.int .i64))) (hat : v.ownBlock = v6.ownBlock ∨ v.ownBlock = some wr.heap.size) :
    RfR b B m ar ap cr cp n p0 way step w v3 v4 v5 v n3 n4 k E PL F LL' wr' := by
  obtain ⟨h1, h2⟩ := h.bx hg h.own6
  exact ⟨h1, own_dj h.own3 hg h.d36, own_dj h.own4 hg h.d46, own_dj h.own5 hg h.d56, ho, h.d34, h.d35, h.d36.at (own_lt h.own3) hat, h.d45, h.d46.at (own_lt h.own4) hat, h.d56.at (own_lt h.own5) hat, h.bB, h.wB, h2⟩
/-- The pins that are left take the place of the pins. -/
theorem RfR.turn (h : RfR b B m ar ap cr cp n p0 way step w v3 v4 v5 v6 n3 n4 n6 E PL F LL wr) : RfR b B m ar ap cr cp n p0 way step w v3 v6 v5 (.slice none 0 0) n3 n6 0 E LL F [] wr :=
  ⟨h.x1, h.own3, h.own6, h.own5, World.ownsRow_nil _ _ _ _, h.d36, h.d35, Dj.nil _ _ _, h.d56.symm, Dj.nil _ _ _, Dj.nil _ _ _, h.bB, h.wB, h.hb⟩
end
end Go.Proofs.Ytknaljghpfeikaa
