/- The contracts of impl.Clamp and spec.Clamp: both return the clamped number. No statement is proved here. -/
import Derived.Test.YtjkencblbegpoaaBase
namespace Go.Proofs.Ytjkencblbegpoaa
open Go.RowKit

/-- n clamped to the range lo to hi. -/
def clamp (n lo hi : Int) : Int := if hi < lo ∨ n < lo then lo else if hi < n then hi else n

theorem clampI (n lo hi : Int) (w : World) :
    Calls Try.prog 38 #[.int .i64 n, .int .i64 lo, .int .i64 hi] w fun e w' => e = .returned (.int .i64 (clamp n lo hi)) ∧ w = w' := by
  go_enter Try.func38, Try.ntmps38
  go_wp2
  all_goals go_ret
  all_goals exact ⟨ret_int (by unfold clamp; omega), rfl⟩
end Go.Proofs.Ytjkencblbegpoaa
