/- The walk of the law FnExactFade: it returns true for every two integers. -/
import Derived.Test.YtjkencblbegpoaaPixB
namespace Go.Proofs.Ytjkencblbegpoaa
open Go.RowKit
theorem walk_FnExactFade (p : Int) (_ : (Lit.int .i64 p).wf = true) (al : Int) (_ : (Lit.int .i64 al).wf = true) (w : World) :
    Calls Try.prog 8 #[.int .i64 p, .int .i64 al] w fun e w' => e = .returned (.bool true) ∧ Below w.heap.size w w' := by
  obtain ⟨v, hv⟩ : ∃ v, v = fade p al := ⟨_, rfl⟩
  have hS := fadeS_any p al
  have hI := fadeI_any p al
  rw [← hv] at hS hI
  have HS := Lib.hid hS
  have HI := Lib.hid hI
  clear hS hI hv
  go_enter Try.func8, Try.ntmps8
  go_wp2_with fail
  refine (HS.out _).mono ?_
  rintro e w1 ⟨rfl, rfl⟩
  go_wp2_with fail
  refine (HI.out _).mono ?_
  rintro e w1 ⟨rfl, hb⟩
  go_wp2_with fail
  go_ret
  exact ⟨rfl, hb⟩
end Go.Proofs.Ytjkencblbegpoaa
