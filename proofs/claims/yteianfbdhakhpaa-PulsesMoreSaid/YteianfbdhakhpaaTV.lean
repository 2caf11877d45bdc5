import Derived.Test.YteianfbdhakhpaaM5
import Derived.Test.YteianfbdhakhpaaT1
/-! isIn. -/
namespace Go.Proofs.Yteianfbdhakhpaa
set_option linter.unusedSimpArgs false
set_option linter.unusedVariables false
open Go Go.RowKit
set_option maxRecDepth 100000 in
set_option maxHeartbeats 2000000 in
theorem isIn_any (a b : Option Addr) (ca cb : Nat) (xs ys : List Int) (h1 : xs.length ≤ 40) (h2 : ys.length ≤ 40) (w : World) (hA : Ints w a xs) (hB : Ints w b ys) : Calls Try.prog 43 #[.slice a xs.length ca, .slice b ys.length cb] w fun e w' => e = .returned (.bool (inAll xs ys)) ∧ w = w' := by
  have hin := fun x => In_any b cb ys x w hB
  have HR0 := hid (show ∀ k x, xs[k]? = some x → inL x ys = false → inAll xs ys = false from fun k x hk hx => by
    unfold inAll
    rw [List.all_eq_false]
    exact ⟨x, List.mem_of_getElem? hk, by rw [hx]; simp⟩)
  have HR1 := hid (show (xs.take xs.length).all (fun x => inL x ys) = true → inAll xs ys = true from fun h => by rw [List.take_length] at h; exact h)
  generalize inAll xs ys = r at *
  obtain ⟨n, hn⟩ : ∃ n, n = xs.length := ⟨_, rfl⟩
  rw [← hn] at h1 HR1 ⊢
  have HN := hid hn
  generalize ys.length = m at *
  clear hn hB
  have h1I : ¬ (n : Int) > 40 := by omega
  have h2I : ¬ (m : Int) > 40 := by omega
  go_enter Try.func43, Try.ntmps43
  go_wp2
  go_loopw [5] (fun v5 wr => ∃ k : Nat, k ≤ n ∧ v5 = .int .i64 (k : Int) ∧ Hid ((xs.take k).all (fun x => inL x ys) = true) ∧ wr = w) (fun v5 _ => n - (intOf v5).toNat)
  case atStart => exact ⟨0, Nat.zero_le _, rfl, hid rfl, rfl⟩
  case round =>
    obtain ⟨k, hk, rfl, HA, rfl⟩ := hrel
    by_cases hlt : k < n
    · obtain ⟨b1, o1, x, rfl, hbl, hc1, _, _, hg, _⟩ := hA.at (k := k) (by rw [← HN.out]; exact hlt)
      have hkI : (k : Int) < n := by omega
      have hk0 : (0 : Int) ≤ (k : Int) := by omega
      have hcc := hin x
      cases hx : inL x ys with
      | true =>
        rw [hx] at hcc
        have HB := hid (show (xs.take (k + 1)).all (fun x => inL x ys) = true by rw [List.take_add_one, hg.out, List.all_append, HA.out]; simp [hx])
        clear hx hg
        go_wp2_with fail
        refine hcc.mono ?_
        rintro e V1 ⟨rfl, rfl⟩
        go_wp2
        go_roundw
        case rel => exact ⟨k + 1, by omega, by simp, HB, trivial⟩
        case measure => simp [intOf]; omega
      | false =>
        rw [hx] at hcc
        have HR := hid (HR0.out k x hg.out hx)
        clear hx hg
        go_wp2_with fail
        refine hcc.mono ?_
        rintro e V1 ⟨rfl, rfl⟩
        go_wp2
        go_ret
        exact ⟨ret_bool HR.out.symm, rfl⟩
    · obtain rfl : k = n := by omega
      have HR := hid (HR1.out HA.out)
      go_wp2
      go_ret
      exact ⟨ret_bool HR.out.symm, rfl⟩
end Go.Proofs.Yteianfbdhakhpaa
