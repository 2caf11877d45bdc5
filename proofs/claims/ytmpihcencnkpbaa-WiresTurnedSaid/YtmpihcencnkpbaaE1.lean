import Derived.Test.YtmpihcencnkpbaaTB
import Derived.WideKeyEntry
import Derived.DeepKeys4
/-! A map keyed by faults: an entry that is looked for and stored. -/
namespace Go.Proofs.Ytmpihcencnkpbaa
set_option linter.unusedSimpArgs false
set_option linter.unusedVariables false
open Go Go.RowKit Go.ChangeMaps Go.MapKept
open Go.WideElems (Fit rg)

theorem own_at_block {H : Type} {w w' : World} {P : Program} {k : TypeId} {R : Value → Option (DataW H × List MemPlace)} {b n : Nat} {D : DataW H} (h : w.ownsMap P k R b n D) (hb : w'.heap[b]? = w.heap[b]?) : w'.ownsMap P k R b n D := by
  obtain ⟨es, clock, h1, h2⟩ := h
  exact ⟨es, clock, hb.trans h1, h2⟩
theorem gr_setBlock {w : World} {b : Nat} {o o' : Obj} (h : w.heap[b]? = some o) : w.grownBy (setBlock w b o') (some b) ∧ (setBlock w b o').heap.size = w.heap.size ∧ (setBlock w b o').heap[b]? = some o' :=
  ⟨⟨rfl, rfl, rfl, by simp [setBlock], fun i _ hi => by
    have hne : b ≠ i := fun e => hi (by rw [e])
    simp [setBlock, Array.getElem?_setIfInBounds, hne]⟩, by simp [setBlock], by
    have hl := heap_lt h
    simp [setBlock, hl]⟩

theorem entry_law {H : Type} {P : Program} {t k e : TypeId} {w : World} {b n : Nat} {D : DataW H} (K : WideMaps.KeyLaw P k) (ht : P.underlying t = some (.map k e)) (he : P.underlying e = some (.int .i64)) (hz : ∀ u : World, (zeroValue e).run P u = .ok (.int .i64 0) u)
    (hown : w.ownsMap P k (plainElem P e) b n D) (hn : n < maxLen) {key : Value} {kl : Lit} (hkey : keyOf P k key = some kl) {q : Int} (hq : D.atKey kl (.lit (.int .i64 0)) = .lit (.int .i64 q)) :
    ∃ (v0 sv : Value) (w1 : World), (Instr.mapEntry t (.map (some b)) key).run P w = .ok (.tuple #[v0, sv]) w1 ∧ w.grownBy w1 (some b) ∧ w1.heap.size = w.heap.size ∧ (Instr.lookup t (.map (some b)) key false).run P w1 = .ok (.int .i64 q) w1 ∧
      ∀ (w2 : World) (c : Int), w2.heap[b]? = w1.heap[b]? → (Lit.int .i64 c).wf = true → ∃ w3, (Instr.entryStore t (.map (some b)) sv (.int .i64 c)).run P w2 = .ok () w3 ∧ w3.ownsMap P k (plainElem P e) b (n + 1) (D.put kl (.lit (.int .i64 c))) ∧ w2.grownBy w3 (some b) := by
  have hown0 := hown
  obtain ⟨es, clock, hb, F, hs, hD⟩ := hown
  have KK : Go.Maps.Keyed P k := Go.Maps.Keyed.of_law K
  obtain ⟨v0, st, es1, clock1, hrun, hv, hst⟩ := Go.WideElems.entry_then_store K ht hz hb F hkey
  obtain ⟨g1, g2, g3⟩ := gr_setBlock (o' := .map es1 clock1) hb
  refine ⟨v0, goInt st, _, hrun, g1, g2, ?_, fun w2 c h2 hc => ?_⟩
  · -- what is looked up behind it
    have hlk0 := hown0.lookup_int KK ht he (hz w) hkey
    obtain ⟨c0, hl0, ha0, _⟩ := hlk0
    have hcq : c0 = q := by
      have := ha0.symm.trans hq
      simp only [DataW.lit.injEq, Lit.int.injEq, true_and] at this
      exact this
    subst hcq
    have hw : (Lit.int .i64 0).wf = true := by decide
    rcases K.find w hkey es.toList F.keys with ⟨h1, h2⟩ | ⟨j, e0, h1, h2, h3⟩
    · obtain ⟨w', hupd, hown', hgr'⟩ := hown0.update KK ht hn hkey (plainElem_int he hw)
      have hupd2 : (Instr.mapUpdate t (.map (some b)) key (.int .i64 0)).run P w = .ok () (setBlock w b (.map (es.push ⟨key, .int .i64 0, clock⟩) (clock + 1))) := by
        simp [Instr.mapUpdate, run_underlying ht, MapKept.run_getObj_map hb, K.check w false hkey, h1, MapKept.run_setObj_map _ hb, Result.andThen, setBlock]
      have hent2 : (Instr.mapEntry t (.map (some b)) key).run P w = .ok (.tuple #[.int .i64 0, goInt clock]) (setBlock w b (.map (es.push ⟨key, .int .i64 0, clock⟩) (clock + 1))) := by
        simp [Instr.mapEntry, run_underlying ht, MapKept.run_getObj_map hb, K.check w false hkey, h1, hz, MapKept.run_setObj_map _ hb, Result.andThen, setBlock]
      rw [hrun] at hent2
      rw [hupd] at hupd2
      have ew : setBlock w b (.map es1 clock1) = w' := by
        have a1 : setBlock w b (.map es1 clock1) = setBlock w b (.map (es.push ⟨key, .int .i64 0, clock⟩) (clock + 1)) := by injection hent2
        have a2 : w' = setBlock w b (.map (es.push ⟨key, .int .i64 0, clock⟩) (clock + 1)) := by injection hupd2
        rw [a1, a2]
      obtain ⟨c1, hl1, ha1, _⟩ := hown'.lookup_int KK ht he (hz w') hkey
      rw [Go.Maps.atKey_put_same ⟨_, hD⟩ (KK.key hkey)] at ha1
      have hc1 : c1 = 0 := by
        simp only [DataW.lit.injEq, Lit.int.injEq, true_and] at ha1
        exact ha1.symm
      have hc0 : c0 = 0 := by
        rcases Maps.fit_look false KK ht (hz w) hb F hkey with ⟨_, _, hat⟩ | ⟨e1, y, hm, hk1, _⟩
        · rw [hD] at ha0
          rw [hat] at ha0
          simp only [DataW.lit.injEq, Lit.int.injEq, true_and] at ha0
          exact ha0.symm
        · exact absurd hk1 (h2 e1 hm)
      rw [ew, hc0, ← hc1]; exact hl1
    · have hent2 : (Instr.mapEntry t (.map (some b)) key).run P w = .ok (.tuple #[e0.val, goInt e0.born]) (setBlock w b (.map es clock)) := by
        have hj : es[j]? = some e0 := by simpa using h2
        have hsame : es.modify j (fun e => { e with key := key }) = es := by
          apply Array.ext'
          rw [Array.toList_modify, Go.ChangeMaps.modify_eq_set _ _ _ _ h2]
          have : ({ e0 with key := key } : MapEntry) = e0 := by rw [← h3]
          rw [this]
          exact Go.WideElems.set_self _ _ _ h2
        simp [Instr.mapEntry, run_underlying ht, MapKept.run_getObj_map hb, K.check w false hkey, h1, hj, h3, K.stays w hkey, hsame, MapKept.run_setObj_map _ hb, Result.andThen, setBlock]
      rw [hrun] at hent2
      have ew : setBlock w b (.map es1 clock1) = setBlock w b (.map es clock) := by injection hent2
      have hown' : (setBlock w b (.map es clock)).ownsMap P k (plainElem P e) b n D := own_at_block hown0 ((gr_setBlock (o' := .map es clock) hb).2.2.trans hb.symm)
      obtain ⟨c1, hl1, ha1, _⟩ := hown'.lookup_int KK ht he (hz _) hkey
      have hc1 : c1 = c0 := by
        have := ha1.symm.trans hq
        simp only [DataW.lit.injEq, Lit.int.injEq, true_and] at this
        exact this
      rw [ew, ← hc1]; exact hl1
  · rw [g3] at h2
    obtain ⟨es', clock', hes, hmu⟩ := hst w2 (.int .i64 c) h2
    obtain ⟨w', hupd, hown', _⟩ := hown0.update KK ht hn hkey (plainElem_int he hc)
    rw [hmu] at hupd
    have ew : w' = setBlock w b (.map es' clock') := by injection hupd with _ h; exact h.symm
    obtain ⟨g1', _, g3'⟩ := gr_setBlock (o' := .map es' clock') h2
    obtain ⟨_, _, g3''⟩ := gr_setBlock (o' := .map es' clock') hb
    refine ⟨_, hes, own_at_block hown' ?_, g1'⟩
    rw [g3', ew, g3'']

theorem jlaid0 : laidOutB Try.prog = true := by kernel_rfl
theorem klaw63 : WideMaps.KeyLaw Try.prog 63 := deep_law_laid jlaid0 (m := 4) (by omega) (of_decide_eq_true (by kernel_rfl)) (by kernel_rfl) (by kernel_rfl)
theorem law63 : Go.Maps.Keyed Try.prog 63 := Go.Maps.Keyed.of_law klaw63
theorem under94 : Try.prog.underlying 94 = some (.map 63 3) := by kernel_rfl
theorem cells63 : Try.prog.cellsOf 63 = 3 := by kernel_rfl
theorem cells3 : Try.prog.cellsOf 3 = 1 := by kernel_rfl
theorem kt63 : Try.prog.keyType 63 = true := by kernel_rfl
def KeyF (f : F3) (l : Lit) : Prop := keyOf Try.prog 63 (.agg #[.int .i64 f.k, .int .i64 f.a, .int .i64 f.b]) = some l
theorem tsize : Try.prog.types.size = 145 := by kernel_rfl
theorem keyF_some {f : F3} (h : f.i64) : ∃ l, KeyF f l := by
  have w0 := wf64 (x := f.k) h.1
  have w1 := wf64 (x := f.a) h.2.1
  have w2 := wf64 (x := f.b) h.2.2
  unfold KeyF keyOf
  simp only [Try.underlying63, kt63, tsize]
  refine ⟨.string (keyBytes [.int .i64 f.k, .int .i64 f.a, .int .i64 f.b]), ?_⟩
  rw [if_pos (by simp [Value.formed, Try.underlying63, cells63])]
  have e : Try.prog.keyLits (145 + 1) 63 (Value.agg #[.int .i64 f.k, .int .i64 f.a, .int .i64 f.b]).cells.toList = some [.int .i64 f.k, .int .i64 f.a, .int .i64 f.b] := by
    have k63 : ∀ n : Nat, Try.prog.keyLits (n + 2) 63 [.int .i64 f.k, .int .i64 f.a, .int .i64 f.b] = some [.int .i64 f.k, .int .i64 f.a, .int .i64 f.b] := by
      intro n
      simp [Program.keyLits, Try.underlying63, Try.underlying3, cells63, cells3, List.range_succ, w0, w1, w2]
    exact k63 144
  rw [e]
  rfl
theorem keyF_inj {f g : F3} {l : Lit} (h : KeyF f l) (k : KeyF g l) : f = g := by
  have := law63.inj h k
  cases f; cases g
  simpa using this
end Go.Proofs.Ytmpihcencnkpbaa
