/- The walk of the law FnExactParseUint: it returns true for every string, where the library's variables lie as its text lays them. -/
import Derived.Test.YteichodalcdbcaaDoorPuI
import Derived.Test.YteichodalcdbcaaDoorPuS
namespace Go.Proofs.YteichodalcdbcaaDoor
open Go.RowKit
theorem walk_FnExactParseUint (s : ByteArray) (hs : s.size ≤ maxLen) (w : World) (ht : Tab w) (he : Errs w) :
    Calls Tryd.prog 7 #[.string s] w fun e w' => e = .returned (.bool true) ∧ Below w.heap.size w w' := by
  have hm : s.size ≤ 9223372036854775807 := by unfold maxLen at hs; omega
  have Ht := Lib.hid ht
  have He := Lib.hid he
  clear ht he
  by_cases hbig : s.size ≤ 1048576
  · go_enter Tryd.func7, Tryd.ntmps7
    go_wp2_with fail
    refine (puS s hbig _).mono ?_
    rintro e w1 ⟨n, ok, rfl, hpu, hb1⟩
    have Hpu := Lib.hid hpu
    have Hb1 := Lib.hid hb1
    clear hb1 hpu
    go_wp2_with fail
    refine (puI s hbig _ (Ht.out.on Hb1.out) (He.out.on Hb1.out)).mono ?_
    rintro e w2 ⟨n2, ok2, rfl, hpu2, hb2⟩
    obtain ⟨rfl, rfl⟩ := Hpu.out.uniq hpu2
    have Hb2 := Lib.hid (Hb1.out.trans (hb2.mono Hb1.out.size))
    clear hb2 hpu2
    go_wp2_with fail
    go_ret
    exact ⟨rfl, Hb2.out⟩
  · go_enter Tryd.func7, Tryd.ntmps7
    go_wp2_with fail
    go_ret
    exact ⟨rfl, Below.refl _ _⟩
end Go.Proofs.YteichodalcdbcaaDoor
