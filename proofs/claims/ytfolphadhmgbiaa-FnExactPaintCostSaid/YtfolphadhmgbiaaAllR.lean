/- A list of numbers in a range; the contract of impl.allInRange. No statement is proved here. -/
import Derived.Test.YtfolphadhmgbiaaMA
import Derived.Test.YtfolphadhmgbiaaImR
import Derived.Test.YtfolphadhmgbiaaProg
import Derived.WalkKit
import Derived.ProofKit
import Derived.OpenShut
import Derived.WalkLawsBesides
import Derived.WalkSpells
import Derived.ShutString
import Derived.ChangeOld
import Derived.Below
import Derived.Lib.Hide
import Derived.BigQuiet
import Derived.Deep.QuietTactic
import Derived.Maps.AppendAt
import Derived.Deep.OwnRows
import Derived.Handy
import Derived.Deep.Draws
import Derived.OwnWalk
import Derived.Deep.AppendLies
import Derived.Deep.LoopGhost
import Derived.Deep.Onto
namespace Go.Proofs.Ytfolphadhmgbiaa
open Go.RowKit
/-- All numbers of a list lie in a range. -/
def allIn (L : List Int) (lo hi : Int) : Prop := ∀ (k : Nat) (x : Int), L[k]? = some x → lo ≤ x ∧ x ≤ hi
noncomputable def allB (L : List Int) (lo hi : Int) : Bool := @decide (allIn L lo hi) (Classical.propDecidable _)
theorem allB_yes {L : List Int} {lo hi : Int} (h : allIn L lo hi) : allB L lo hi = true := by unfold allB; simp [h]
theorem allB_no {L : List Int} {lo hi : Int} (h : ¬ allIn L lo hi) : allB L lo hi = false := by unfold allB; simp [h]
set_option maxHeartbeats 600000 in
theorem allI (v : Value) (L : List Int) (lo hi : Int) (w : World) (hv : RdI w v L) :
    Calls Try.prog 177 #[v, .int .i64 lo, .int .i64 hi] w fun e w' => e = .returned (.bool (allB L lo hi)) ∧ w = w' := by
  obtain ⟨A, c, rfl⟩ := hv.form
  have hn1 : L.length ≤ 9223372036854775807 := by have := hv.len; unfold maxLen at this; omega
  obtain ⟨n, hn⟩ : ∃ n, n = L.length := ⟨_, rfl⟩
  rw [← hn] at hn1 hv ⊢
  have Hv := Lib.hid hv
  have Hn := Lib.hid hn
  clear hv hn
  go_enter Try.func177, Try.ntmps177
  go_wp2_with fail
  go_loopw [11] (fun i wr => ∃ k : Nat, k ≤ n ∧ i = .int .i64 k ∧ Hid (∀ (j : Nat) (x : Int), j < k → L[j]? = some x → lo ≤ x ∧ x ≤ hi) ∧ wr = w) (fun i _ => n - (intOf i).toNat)
  case atStart => exact ⟨0, Nat.zero_le _, rfl, Lib.hid (fun j x h => by omega), rfl⟩
  case round =>
    obtain ⟨k, hk, rfl, Hall, rfl⟩ := hrel
    by_cases hlt : k < n
    · obtain ⟨g, x, rfl, hx, hc⟩ := Hv.out.at_ (k := k) (by rw [← Hn.out]; exact hlt)
      have Hx := Lib.hid hx
      have k0 : (0 : Int) ≤ (k : Int) := by omega
      have k1 : (k : Int) < (n : Int) := by omega
      clear hx
      by_cases hp : lo ≤ x ∧ x ≤ hi
      · have Hp := Lib.hid hp
        clear hp
        go_wp2_with ((go_at_call 100; (with_reducible refine (inI_yes _ _ _ _ Hp.out.1 Hp.out.2).mono ?_); rintro e w' ⟨rfl, rfl⟩))
        go_roundw
        case rel =>
          refine ⟨k + 1, by omega, by go_num, Lib.hid (fun j y hj hy => ?_), by first | rfl | trivial⟩
          by_cases e : j < k
          · exact Hall.out j y e hy
          · obtain rfl : j = k := by omega
            rw [Hx.out] at hy
            rw [← Option.some.inj hy]
            exact Hp.out
        case measure => simp [intOf]; omega
      · have hp2 : x < lo ∨ hi < x := by omega
        have Hp := Lib.hid hp2
        have hno : allB L lo hi = false := allB_no fun h => hp (h k x Hx.out)
        have Hno := Lib.hid hno
        clear hp hp2 hno
        go_wp2_with ((go_at_call 100; (with_reducible refine (inI_no _ _ _ _ Hp.out).mono ?_); rintro e w' ⟨rfl, rfl⟩))
        go_ret
        exact ⟨ret_bool Hno.out.symm, rfl⟩
    · obtain rfl : k = n := by omega
      have hyes : allB L lo hi = true := allB_yes fun j x hx => Hall.out j x (by rw [Hn.out]; exact (List.getElem?_eq_some_iff.1 hx).1) hx
      have Hyes := Lib.hid hyes
      clear hyes
      go_wp2_with fail
      go_ret
      exact ⟨ret_bool Hyes.out.symm, rfl⟩
end Go.Proofs.Ytfolphadhmgbiaa
