/- The walk of the law FnExactFormatInt: it returns true for every integer, where the library's table of powers lies as its text lays it. -/
import Derived.Test.YteichodalcdbcaaDoorFmtS
namespace Go.Proofs.YteichodalcdbcaaDoor
open Go.RowKit
theorem walk_FnExactFormatInt (a0 : Int) (w0 : (Lit.int .i64 a0).wf = true) (w : World) (ht : Tab w) :
    Calls Tryd.prog 6 #[.int .i64 a0] w fun e w' => e = .returned (.bool true) ∧ Below w.heap.size w w' := by
  obtain ⟨h0, h1⟩ := wf_bd w0
  have Ht := Lib.hid ht
  clear ht
  go_enter Tryd.func6, Tryd.ntmps6
  go_wp2_with fail
  refine (fmtS a0 h0 h1 _).mono ?_
  rintro e w1 ⟨rfl, hb1⟩
  have Hb1 := Lib.hid hb1
  clear hb1
  go_wp2_with fail
  refine (fmtI a0 h0 h1 _ (Ht.out.on Hb1.out)).mono ?_
  rintro e w2 ⟨rfl, hb2⟩
  have Hb2 := Lib.hid (Hb1.out.trans (hb2.mono Hb1.out.size))
  clear hb2
  go_wp2_with fail
  go_ret
  exact ⟨rfl, Hb2.out⟩
end Go.Proofs.YteichodalcdbcaaDoor
