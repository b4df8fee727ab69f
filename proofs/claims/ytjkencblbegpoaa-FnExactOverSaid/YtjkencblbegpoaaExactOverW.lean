/- The walk of the law FnExactOver: it returns true for every two integers. -/
import Derived.Test.YtjkencblbegpoaaOverI
namespace Go.Proofs.Ytjkencblbegpoaa
open Go.RowKit
theorem walk_FnExactOver (p : Int) (_ : (Lit.int .i64 p).wf = true) (q : Int) (_ : (Lit.int .i64 q).wf = true) (w : World) :
    Calls Try.prog 7 #[.int .i64 p, .int .i64 q] w fun e w' => e = .returned (.bool true) ∧ Below w.heap.size w w' := by
  obtain ⟨v, hv⟩ : ∃ v, v = over p q := ⟨_, rfl⟩
  have hS := overS_any p q
  have hI := overI_any p q
  rw [← hv] at hS hI
  have HS := Lib.hid hS
  have HI := Lib.hid hI
  clear hS hI hv
  go_enter Try.func7, Try.ntmps7
  go_wp2_with fail
  refine (HS.out _).mono ?_
  rintro e w1 ⟨rfl, rfl⟩
  go_wp2_with fail
  refine (HI.out _).mono ?_
  rintro e w1 ⟨rfl, hb⟩
  go_wp2_with fail
  go_ret
  exact ⟨rfl, hb⟩
end Go.Proofs.Ytjkencblbegpoaa
