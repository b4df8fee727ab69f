/- The walk of the law FnExactMoved: it returns true for every rectangle and every two distances. -/
import Derived.Test.YtfjdknghphmceaaRectEq
import Derived.Test.YtfjdknghphmceaaMovedS
namespace Go.Proofs.Ytfjdknghphmceaa
open Go.RowKit
set_option maxHeartbeats 1000000 in
theorem walk_FnExactMoved (a0 : Rc) (x : Int) (_ : (Lit.int .i64 x).wf = true) (y : Int) (_ : (Lit.int .i64 y).wf = true) (w : World) :
    Calls Try.prog 7 #[.agg #[.int .i64 a0.x, .int .i64 a0.y, .int .i64 a0.w, .int .i64 a0.h], .int .i64 x, .int .i64 y] w fun e w' => e = .returned (.bool true) ∧ Below w.heap.size w w' := by
  obtain ⟨v, hv⟩ : ∃ v, v = movedR a0 x y := ⟨_, rfl⟩
  have hS := movedS_any a0 x y
  have hI := movedI_any a0 x y
  rw [← hv] at hS hI
  have HS := Lib.hid hS
  have HI := Lib.hid hI
  clear hS hI hv
  go_enter Try.func7, Try.ntmps7
  go_wp2_with fail
  refine (toRect_any a0 _).mono ?_
  rintro e w1 ⟨rfl, b1⟩
  have hw : Below w.heap.size w w1 := ((Below.refl _ _).alloc (Nat.le_refl _) _).trans (b1.mono (by simp))
  have h0 : LcAt w1 w.heap.size a0 := (LcAt.newAt rfl a0).below b1 (by simp)
  have l0 := h0.lt
  have H0 := Lib.hid h0
  clear b1 h0
  go_wp2_with fail
  refine (HS.out _).mono ?_
  rintro e w2 ⟨rfl, b2⟩
  have hw := hw.trans (b2.mono hw.size)
  have h0 := H0.out.below b2 l0
  obtain ⟨r0, r1, r2, r3⟩ := h0.cells
  have l0 := h0.lt
  have H0 := Lib.hid h0
  clear b2 h0
  go_wp2_with fail
  refine (toRect_any a0 _).mono ?_
  rintro e w3 ⟨rfl, b3⟩
  have hw := (hw.alloc hw.size _).trans (b3.mono (by have := hw.size; simp; omega))
  have h0 := (H0.out.alloc _).below b3 (by simp; omega)
  have h1 : RcAt w3 w2.heap.size v := (RcAt.new w2 v).below b3 (by simp)
  have l0 := h0.lt
  have l1 := h1.lt
  have H0 := Lib.hid h0
  have H1 := Lib.hid h1
  clear b3 h0 h1 r0 r1 r2 r3
  go_wp2_with fail
  refine (HI.out _).mono ?_
  rintro e w4 ⟨rfl, b4⟩
  have hw := hw.trans (b4.mono hw.size)
  have h1 := H1.out.below b4 l1
  obtain ⟨m0, m1, m2, m3⟩ := h1.cells
  have l1 := h1.lt
  have H1 := Lib.hid h1
  clear b4 h1
  go_wp2_with fail
  refine (eqRect_same v _).mono ?_
  rintro e w5 ⟨rfl, b5⟩
  have hw := (hw.alloc hw.size _).trans (b5.mono (by have := hw.size; simp; omega))
  go_wp2_with fail
  go_ret
  exact ⟨rfl, hw⟩
end Go.Proofs.Ytfjdknghphmceaa
