/- The walk of the law FnExactMakePixel: it returns true for every four integers. -/
import Derived.Test.YtjkencblbegpoaaPixB
namespace Go.Proofs.Ytjkencblbegpoaa
open Go.RowKit
theorem walk_FnExactMakePixel (a : Int) (_ : (Lit.int .i64 a).wf = true) (r : Int) (_ : (Lit.int .i64 r).wf = true) (g : Int) (_ : (Lit.int .i64 g).wf = true) (b : Int) (_ : (Lit.int .i64 b).wf = true) (w : World) :
    Calls Try.prog 4 #[.int .i64 a, .int .i64 r, .int .i64 g, .int .i64 b] w fun e w' => e = .returned (.bool true) ∧ Below w.heap.size w w' := by
  obtain ⟨v, hv⟩ : ∃ v, v = mkPix a r g b := ⟨_, rfl⟩
  have hS := mkS_any a r g b
  have hI := mkI_any a r g b
  rw [← hv] at hS hI
  have HS := Lib.hid hS
  have HI := Lib.hid hI
  clear hS hI hv
  go_enter Try.func4, Try.ntmps4
  go_wp2_with fail
  refine (HS.out _).mono ?_
  rintro e w1 ⟨rfl, rfl⟩
  go_wp2_with fail
  refine (HI.out _).mono ?_
  rintro e w1 ⟨rfl, hb⟩
  go_wp2_with fail
  go_ret
  exact ⟨rfl, hb⟩
end Go.Proofs.Ytjkencblbegpoaa
