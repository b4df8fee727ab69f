/- The walk of the law FnExactPart: it returns true for every two integers. -/
import Derived.Test.YtjkencblbegpoaaPixC
namespace Go.Proofs.Ytjkencblbegpoaa
open Go.RowKit
theorem walk_FnExactPart (a : Int) (_ : (Lit.int .i64 a).wf = true) (b : Int) (_ : (Lit.int .i64 b).wf = true) (w : World) :
    Calls Try.prog 6 #[.int .i64 a, .int .i64 b] w fun e w' => e = .returned (.bool true) ∧ Below w.heap.size w w' := by
  obtain ⟨v, hv⟩ : ∃ v, v = partV a b := ⟨_, rfl⟩
  have hS := partS_any a b
  have hI := partI_any a b
  rw [← hv] at hS hI
  have HS := Lib.hid hS
  have HI := Lib.hid hI
  clear hS hI hv
  go_enter Try.func6, Try.ntmps6
  go_wp2_with fail
  refine (HS.out _).mono ?_
  rintro e w1 ⟨rfl, rfl⟩
  go_wp2_with fail
  refine (HI.out _).mono ?_
  rintro e w1 ⟨rfl, rfl⟩
  go_wp2_with fail
  go_ret
  exact ⟨rfl, Below.refl _ _⟩
end Go.Proofs.Ytjkencblbegpoaa
