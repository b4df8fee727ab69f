/- The contract of laws.big: whether a code is longer than 2^20 bytes. No statement is proved here. -/
import Derived.Test.YtaggldhlnjbnhaaBase
import Derived.Test.YtaggldhlnjbnhaaProg
import Derived.WalkKit
import Derived.ProofKit
import Derived.OpenShut
import Derived.WalkLawsBesides
import Derived.WalkSpells
import Derived.ShutString
import Derived.ChangeOld
import Derived.Below
import Derived.Lib.Hide
namespace Go.Proofs.Ytaggldhlnjbnhaa
open Go.RowKit
theorem big_no (w : World) (a : Option Addr) (len cap : Nat) (h : len ≤ 1048576) :
    Calls Try.prog 15 #[.slice a len cap] w fun e w' => e = .returned (.bool false) ∧ w = w' := by
  have hd : decide ((1048576 : Int) < len) = false := by simp; omega
  go_enter Try.func15, Try.ntmps15
  go_wp2
  go_ret
  exact ⟨ret_bool (by first | rfl | (simp; done) | (simp; omega)), rfl⟩
theorem big_yes (w : World) (a : Option Addr) (len cap : Nat) (h : 1048576 < len) :
    Calls Try.prog 15 #[.slice a len cap] w fun e w' => e = .returned (.bool true) ∧ w = w' := by
  go_enter Try.func15, Try.ntmps15
  go_wp2
  go_ret
  exact ⟨ret_bool (by first | rfl | (simp; done) | (simp; omega)), rfl⟩
end Go.Proofs.Ytaggldhlnjbnhaa
