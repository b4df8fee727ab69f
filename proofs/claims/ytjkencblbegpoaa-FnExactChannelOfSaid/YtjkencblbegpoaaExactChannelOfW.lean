/- The walk of the law FnExactChannelOf: it returns true for every two integers. -/
import Derived.Test.YtjkencblbegpoaaPixI
namespace Go.Proofs.Ytjkencblbegpoaa
open Go.RowKit
theorem walk_FnExactChannelOf (p : Int) (_ : (Lit.int .i64 p).wf = true) (k : Int) (_ : (Lit.int .i64 k).wf = true) (w : World) :
    Calls Try.prog 5 #[.int .i64 p, .int .i64 k] w fun e w' => e = .returned (.bool true) ∧ Below w.heap.size w w' := by
  obtain ⟨v, hv⟩ : ∃ v, v = chan p k := ⟨_, rfl⟩
  have hS := chS_any p k
  have hI := chI_any p k
  rw [← hv] at hS hI
  have HS := Lib.hid hS
  have HI := Lib.hid hI
  clear hS hI hv
  go_enter Try.func5, Try.ntmps5
  go_wp2_with fail
  refine (HS.out _).mono ?_
  rintro e w1 ⟨rfl, rfl⟩
  go_wp2_with fail
  refine (HI.out _).mono ?_
  rintro e w1 ⟨rfl, hb⟩
  go_wp2_with fail
  go_ret
  exact ⟨rfl, hb⟩
end Go.Proofs.Ytjkencblbegpoaa
