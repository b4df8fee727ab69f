/- The walk of the law FnExactDecodeHex: it returns true for every string. -/
import Derived.Test.YteichodalcdbcaaDecS
import Derived.Test.YteichodalcdbcaaDecI
namespace Go.Proofs.Yteichodalcdbcaa
open Go.RowKit
set_option maxHeartbeats 400000 in
theorem walk_FnExactDecodeHex (s : ByteArray) (hs : s.size ≤ maxLen) (w : World) :
    Calls Try.prog 5 #[.string s] w fun e w' => e = .returned (.bool true) ∧ Below w.heap.size w w' := by
  have hm : s.size ≤ 9223372036854775807 := by unfold maxLen at hs; omega
  by_cases hbig : s.size ≤ 1048576
  · by_cases hlen : s.size ≤ 40000 ∧ s.size % 2 = 0
    · obtain ⟨h1, h2⟩ := hlen
      have Hd : Hid (decR s.data.toList = .tuple #[.string ⟨(decOf s.data.toList (s.data.toList.length / 2)).toArray⟩, .bool true] ∨ decR s.data.toList = .tuple #[.string ByteArray.empty, .bool false]) := by
        unfold decR; split
        · exact .inl rfl
        · exact .inr rfl
      have hS := decS s h1 h2
      have hI := decI s h1 h2
      have HS := Lib.hid hS
      have HI := Lib.hid hI
      clear hS hI
      go_enter Try.func5, Try.ntmps5
      go_wp2_with fail
      refine (HS.out _).mono ?_
      rintro e w1 ⟨rfl, hb1⟩
      rcases Hd.out with hd | hd
      all_goals
        rw [hd]
        have HD := Lib.hid hd
        clear hd
        go_wp2_with fail
        refine (HI.out _).mono ?_
        rintro e w2 ⟨rfl, hb2⟩
        rw [HD.out]
        go_wp2_with fail
        go_ret
        exact ⟨rfl, hb1.trans (hb2.mono hb1.size)⟩
    · go_enter Try.func5, Try.ntmps5
      go_wp2_with fail
      refine (decS_no s (by omega) hm _).mono ?_
      rintro e w1 ⟨rfl, rfl⟩
      go_wp2_with fail
      refine (decI_no s (by omega) hm _).mono ?_
      rintro e w2 ⟨rfl, rfl⟩
      go_wp2_with fail
      go_ret
      exact ⟨rfl, Below.refl _ _⟩
  · go_enter Try.func5, Try.ntmps5
    go_wp2_with fail
    go_ret
    exact ⟨rfl, Below.refl _ _⟩
end Go.Proofs.Yteichodalcdbcaa
