/- Texts of mine in one file: Base, RectC, ImO. No statement is proved here. -/
import Derived.Test.YtokniebejilcbaaProg
import Derived.WalkKit
import Derived.ProofKit
import Derived.OpenShut
import Derived.WalkLawsBesides
import Derived.WalkSpells
import Derived.ShutString
import Derived.ChangeOld
import Derived.Below
import Derived.Lib.Hide
import Derived.BigQuiet
import Derived.Deep.QuietTactic
import Derived.Maps.AppendAt
import Derived.Deep.OwnRows
import Derived.Handy
import Derived.Deep.Draws
import Derived.OwnWalk
import Derived.Deep.AppendLies
import Derived.Deep.LoopGhost
import Derived.Deep.Onto
import Derived.Laws.BitsAllLaws
import Derived.Lib.QuoteBits
namespace Go.Proofs.Ytokniebejilcbaa
open Go.RowKit
theorem ret_int {k : IntKind} {a b : Int} (h : a = b) : Ending.returned (.int k a) = .returned (.int k b) := by rw [h]
theorem ret_bool {a b : Bool} (h : a = b) : Ending.returned (.bool a) = .returned (.bool b) := by rw [h]
end Go.Proofs.Ytokniebejilcbaa
namespace Go.Proofs.Ytokniebejilcbaa
open Go.RowKit
theorem inI_yes (n lo hi : Int) (w : World) (h1 : lo ≤ n) (h2 : n ≤ hi) :
  Calls Try.prog 103 #[.int .i64 n, .int .i64 lo, .int .i64 hi] w fun e w' => e = .returned (.bool true) ∧ w = w' := by
 go_enter Try.func103, Try.ntmps103
 go_wp2
 go_ret
 exact ⟨rfl, rfl⟩
theorem inI_no (n lo hi : Int) (w : World) (h : n < lo ∨ hi < n) :
  Calls Try.prog 103 #[.int .i64 n, .int .i64 lo, .int .i64 hi] w fun e w' => e = .returned (.bool false) ∧ w = w' := by
 by_cases h1 : n < lo
 ·clear h
  go_enter Try.func103, Try.ntmps103
  go_wp2
  go_ret
  exact ⟨rfl, rfl⟩
 ·have h2 : hi < n := by omega
  have h3 : lo ≤ n := by omega
  clear h h1
  go_enter Try.func103, Try.ntmps103
  go_wp2
  go_ret
  exact ⟨ret_bool (decide_eq_false (by omega)), rfl⟩
theorem inS_yes (n lo hi : Int) (w : World) (h1 : lo ≤ n) (h2 : n ≤ hi) :
  Calls Try.prog 61 #[.int .i64 n, .int .i64 lo, .int .i64 hi] w fun e w' => e = .returned (.bool true) ∧ w = w' := by
 go_enter Try.func61, Try.ntmps61
 go_wp2
 go_ret
 exact ⟨rfl, rfl⟩
theorem inS_no (n lo hi : Int) (w : World) (h : n < lo ∨ hi < n) :
  Calls Try.prog 61 #[.int .i64 n, .int .i64 lo, .int .i64 hi] w fun e w' => e = .returned (.bool false) ∧ w = w' := by
 by_cases h1 : n < lo
 ·clear h
  go_enter Try.func61, Try.ntmps61
  go_wp2
  go_ret
  exact ⟨rfl, rfl⟩
 ·have h2 : hi < n := by omega
  have h3 : lo ≤ n := by omega
  clear h h1
  go_enter Try.func61, Try.ntmps61
  go_wp2
  go_ret
  exact ⟨ret_bool (decide_eq_false (by omega)), rfl⟩
end Go.Proofs.Ytokniebejilcbaa
namespace Go.Proofs.Ytokniebejilcbaa
open Go.RowKit
def szOk (W H : Int) : Prop := 1 ≤ W ∧ W ≤ 16 ∧ 1 ≤ H ∧ H ≤ 16
theorem sz_mul {W H : Int} (h : szOk W H) : 0 ≤ W * H ∧ W * H ≤ 256 := by
 obtain ⟨h1, h2, h3, h4⟩ := h
 exact ⟨Int.mul_nonneg (by omega) (by omega), by have := Int.mul_le_mul (a := W) (b := H) (c := 16) (d := 16) h2 h4 (by omega) (by omega); omega⟩
theorem szI_yes (W H : Int) (h : szOk W H) (w : World) :
  Calls Try.prog 62 #[.int .i64 W, .int .i64 H] w fun e w' => e = .returned (.bool true) ∧ w = w' := by
 obtain ⟨h1, h2, h3, h4⟩ := h
 go_enter Try.func62, Try.ntmps62
 go_wp2_with ((go_at_call 103; (with_reducible refine (inI_yes _ _ _ _ (by omega) (by omega)).mono ?_); rintro e w' ⟨rfl, rfl⟩))
 go_ret
 exact ⟨rfl, rfl⟩
theorem szI_no (W H : Int) (h : ¬ szOk W H) (w : World) :
  Calls Try.prog 62 #[.int .i64 W, .int .i64 H] w fun e w' => e = .returned (.bool false) ∧ w = w' := by
 unfold szOk at h
 by_cases h1 : 1 ≤ W ∧ W ≤ 16
 ·obtain ⟨h1, h2⟩ := h1
  have h7 : H < 1 ∨ 16 < H := by omega
  have H7 := Lib.hid h7
  clear h7 h
  go_enter Try.func62, Try.ntmps62
  go_wp2_with (first | (go_at_call 103; (with_reducible refine (inI_yes _ _ _ _ (by omega) (by omega)).mono ?_); rintro e w' ⟨rfl, rfl⟩) | (go_at_call 103; (with_reducible refine (inI_no _ _ _ _ H7.out).mono ?_); rintro e w' ⟨rfl, rfl⟩))
  go_ret
  exact ⟨rfl, rfl⟩
 ·have h7 : W < 1 ∨ 16 < W := by omega
  have H7 := Lib.hid h7
  clear h7 h h1
  go_enter Try.func62, Try.ntmps62
  go_wp2_with (first | (go_at_call 103; (with_reducible refine (inI_no _ _ _ _ H7.out).mono ?_); rintro e w' ⟨rfl, rfl⟩))
  go_ret
  exact ⟨rfl, rfl⟩
end Go.Proofs.Ytokniebejilcbaa
