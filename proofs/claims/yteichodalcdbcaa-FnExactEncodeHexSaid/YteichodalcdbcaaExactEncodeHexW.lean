/- The walk of the law FnExactEncodeHex: it returns true for every string. -/
import Derived.Test.YteichodalcdbcaaHexS
import Derived.Test.YteichodalcdbcaaHexI
namespace Go.Proofs.Yteichodalcdbcaa
open Go.RowKit
set_option maxHeartbeats 400000 in
theorem walk_FnExactEncodeHex (s : ByteArray) (hs : s.size ≤ maxLen) (w : World) :
    Calls Try.prog 4 #[.string s] w fun e w' => e = .returned (.bool true) ∧ Below w.heap.size w w' := by
  have hm : s.size ≤ 9223372036854775807 := by unfold maxLen at hs; omega
  by_cases hbig : s.size ≤ 1048576
  · by_cases hlen : s.size ≤ 20000
    · go_enter Try.func4, Try.ntmps4
      go_wp2_with fail
      refine (encS s hlen _).mono ?_
      rintro e w1 ⟨rfl, hb1⟩
      go_wp2_with fail
      refine (encI s hlen _).mono ?_
      rintro e w2 ⟨rfl, hb2⟩
      go_wp2_with fail
      go_ret
      exact ⟨rfl, hb1.trans (hb2.mono hb1.size)⟩
    · go_enter Try.func4, Try.ntmps4
      go_wp2_with fail
      refine (encS_no s (by omega) hm _).mono ?_
      rintro e w1 ⟨rfl, rfl⟩
      go_wp2_with fail
      refine (encI_no s (by omega) hm _).mono ?_
      rintro e w2 ⟨rfl, rfl⟩
      go_wp2_with fail
      go_ret
      exact ⟨rfl, Below.refl _ _⟩
  · go_enter Try.func4, Try.ntmps4
    go_wp2_with fail
    go_ret
    exact ⟨rfl, Below.refl _ _⟩
end Go.Proofs.Yteichodalcdbcaa
