/- The walk of the law FnExactHasPoint: it returns true for every rectangle and point. -/
import Derived.Test.YtfjdknghphmceaaRectEq
import Derived.Test.YtfjdknghphmceaaHasC
namespace Go.Proofs.Ytfjdknghphmceaa
open Go.RowKit
set_option maxHeartbeats 1000000 in
theorem walk_FnExactHasPoint (a0 : Rc) (x : Int) (_ : (Lit.int .i64 x).wf = true) (y : Int) (_ : (Lit.int .i64 y).wf = true) (w : World) :
    Calls Try.prog 4 #[.agg #[.int .i64 a0.x, .int .i64 a0.y, .int .i64 a0.w, .int .i64 a0.h], .int .i64 x, .int .i64 y] w fun e w' => e = .returned (.bool true) ∧ Below w.heap.size w w' := by
  obtain ⟨v, hv⟩ : ∃ v, v = hasB a0 x y := ⟨_, rfl⟩
  have hS := hasS_any a0 x y
  have hI := hasI_any a0 x y
  rw [← hv] at hS hI
  have HS := Lib.hid hS
  have HI := Lib.hid hI
  clear hS hI hv
  cases v
  all_goals
    go_enter Try.func4, Try.ntmps4
    go_wp2_with fail
    refine (toRect_any a0 _).mono ?_
    rintro e w1 ⟨rfl, b1⟩
    obtain ⟨hc1, hf1⟩ := bcell b1
    have hw : Below w.heap.size w w1 := ((Below.refl _ _).alloc (Nat.le_refl _) _).trans (b1.mono (by simp))
    have hz1 : w.heap.size < w1.heap.size := by have := b1.size; simp at this; omega
    go_wp2_with fail
    refine (HS.out _).mono ?_
    rintro e w2 ⟨rfl, b2⟩
    obtain ⟨hc2, hf2⟩ := bcell b2
    have hw := hw.trans (b2.mono hw.size)
    have hz2 : w1.heap.size ≤ w2.heap.size := by have := b2.size; first | omega | (simp at this; omega)
    go_wp2_with fail
    refine (toRect_any a0 _).mono ?_
    rintro e w3 ⟨rfl, b3⟩
    obtain ⟨hc3, hf3⟩ := bcell b3
    have hw := hw.trans (b3.mono hw.size)
    have hz3 : w2.heap.size ≤ w3.heap.size := by have := b3.size; first | omega | (simp at this; omega)
    go_wp2_with fail
    refine (HI.out _).mono ?_
    rintro e w4 ⟨rfl, b4⟩
    obtain ⟨hc4, hf4⟩ := bcell b4
    have hw := hw.trans (b4.mono hw.size)
    have hz4 : w3.heap.size ≤ w4.heap.size := by have := b4.size; first | omega | (simp at this; omega)
    go_wp2_with fail
    go_ret
    exact ⟨rfl, hw⟩
end Go.Proofs.Ytfjdknghphmceaa
