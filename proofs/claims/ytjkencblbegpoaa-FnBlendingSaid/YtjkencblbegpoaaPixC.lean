/- The contracts of the small functions over pixels (impl and spec): isPixel, Part, ChannelOf of spec, packed, unpacked. No statement is proved here. -/
import Derived.Test.YtjkencblbegpoaaRectC
import Derived.Test.YtjkencblbegpoaaPixM
namespace Go.Proofs.Ytjkencblbegpoaa
open Go.RowKit


theorem pixI_yes (p : Int) (h : pixOk p) (w : World) :
    Calls Try.prog 28 #[.int .i64 p] w fun e w' => e = .returned (.bool true) ∧ w = w' := by
  go_enter Try.func28, Try.ntmps28
  go_wp2_with fail
  refine (inI_yes p 0 4294967295 _ h.1 h.2).mono ?_
  rintro e w' ⟨rfl, rfl⟩
  go_wp2
  go_ret
  exact ⟨rfl, rfl⟩
theorem pixI_no (p : Int) (h : ¬ pixOk p) (w : World) :
    Calls Try.prog 28 #[.int .i64 p] w fun e w' => e = .returned (.bool false) ∧ w = w' := by
  have h' : p < 0 ∨ 4294967295 < p := by unfold pixOk at h; omega
  have H := Lib.hid h'
  clear h h'
  go_enter Try.func28, Try.ntmps28
  go_wp2_with fail
  refine (inI_no p 0 4294967295 _ H.out).mono ?_
  rintro e w' ⟨rfl, rfl⟩
  go_wp2
  go_ret
  exact ⟨rfl, rfl⟩

theorem pixS_yes (p : Int) (h : pixOk p) (w : World) :
    Calls Try.prog 34 #[.int .i64 p] w fun e w' => e = .returned (.bool true) ∧ w = w' := by
  go_enter Try.func34, Try.ntmps34
  go_wp2_with fail
  refine (inS_yes p 0 4294967295 _ h.1 h.2).mono ?_
  rintro e w' ⟨rfl, rfl⟩
  go_wp2
  go_ret
  exact ⟨rfl, rfl⟩
theorem pixS_no (p : Int) (h : ¬ pixOk p) (w : World) :
    Calls Try.prog 34 #[.int .i64 p] w fun e w' => e = .returned (.bool false) ∧ w = w' := by
  have h' : p < 0 ∨ 4294967295 < p := by unfold pixOk at h; omega
  have H := Lib.hid h'
  clear h h'
  go_enter Try.func34, Try.ntmps34
  go_wp2_with fail
  refine (inS_no p 0 4294967295 _ H.out).mono ?_
  rintro e w' ⟨rfl, rfl⟩
  go_wp2
  go_ret
  exact ⟨rfl, rfl⟩
theorem ch_no {a : Int} (h : ¬ chOk a) : a < 0 ∨ 255 < a := by unfold chOk at h; omega

theorem partI_ok (a b : Int) (ha : chOk a) (hb : chOk b) (w : World) :
    Calls Try.prog 20 #[.int .i64 a, .int .i64 b] w fun e w' => e = .returned (.int .i64 (pxPart a b)) ∧ w = w' := by
  obtain ⟨m0, m1⟩ := mul_bd ha hb
  have Ha := Lib.hid ha
  have Hb := Lib.hid hb
  clear ha hb
  go_enter Try.func20, Try.ntmps20
  go_wp2_with fail
  refine (inI_yes a 0 255 _ Ha.out.1 Ha.out.2).mono ?_
  rintro e w' ⟨rfl, rfl⟩
  go_wp2_with fail
  refine (inI_yes b 0 255 _ Hb.out.1 Hb.out.2).mono ?_
  rintro e w' ⟨rfl, rfl⟩
  go_wp2
  go_ret
  exact ⟨rfl, rfl⟩
theorem partI_any (a b : Int) (w : World) :
    Calls Try.prog 20 #[.int .i64 a, .int .i64 b] w fun e w' => e = .returned (.int .i64 (partV a b)) ∧ w = w' := by
  by_cases ha : chOk a
  · by_cases hb : chOk b
    · exact (partI_ok a b ha hb w).mono (by rintro e w' ⟨rfl, rfl⟩; exact ⟨ret_int (if_pos ⟨ha, hb⟩).symm, rfl⟩)
    · have Hb := Lib.hid hb
      have Ha := Lib.hid ha
      clear ha hb
      go_enter Try.func20, Try.ntmps20
      go_wp2_with fail
      refine (inI_yes a 0 255 _ Ha.out.1 Ha.out.2).mono ?_
      rintro e w' ⟨rfl, rfl⟩
      go_wp2_with fail
      refine (inI_no b 0 255 _ (ch_no Hb.out)).mono ?_
      rintro e w' ⟨rfl, rfl⟩
      go_wp2
      go_ret
      exact ⟨ret_int (if_neg fun h => Hb.out h.2).symm, rfl⟩
  · have Ha := Lib.hid ha
    clear ha
    go_enter Try.func20, Try.ntmps20
    go_wp2_with fail
    refine (inI_no a 0 255 _ (ch_no Ha.out)).mono ?_
    rintro e w' ⟨rfl, rfl⟩
    go_wp2
    go_ret
    exact ⟨ret_int (if_neg fun h => Ha.out h.1).symm, rfl⟩

theorem partS_ok (a b : Int) (ha : chOk a) (hb : chOk b) (w : World) :
    Calls Try.prog 19 #[.int .i64 a, .int .i64 b] w fun e w' => e = .returned (.int .i64 (pxPart a b)) ∧ w = w' := by
  obtain ⟨m0, m1⟩ := mul_bd ha hb
  have Ha := Lib.hid ha
  have Hb := Lib.hid hb
  clear ha hb
  go_enter Try.func19, Try.ntmps19
  go_wp2_with fail
  refine (inS_yes a 0 255 _ Ha.out.1 Ha.out.2).mono ?_
  rintro e w' ⟨rfl, rfl⟩
  go_wp2_with fail
  refine (inS_yes b 0 255 _ Hb.out.1 Hb.out.2).mono ?_
  rintro e w' ⟨rfl, rfl⟩
  go_wp2
  go_ret
  exact ⟨rfl, rfl⟩
theorem partS_any (a b : Int) (w : World) :
    Calls Try.prog 19 #[.int .i64 a, .int .i64 b] w fun e w' => e = .returned (.int .i64 (partV a b)) ∧ w = w' := by
  by_cases ha : chOk a
  · by_cases hb : chOk b
    · exact (partS_ok a b ha hb w).mono (by rintro e w' ⟨rfl, rfl⟩; exact ⟨ret_int (if_pos ⟨ha, hb⟩).symm, rfl⟩)
    · have Hb := Lib.hid hb
      have Ha := Lib.hid ha
      clear ha hb
      go_enter Try.func19, Try.ntmps19
      go_wp2_with fail
      refine (inS_yes a 0 255 _ Ha.out.1 Ha.out.2).mono ?_
      rintro e w' ⟨rfl, rfl⟩
      go_wp2_with fail
      refine (inS_no b 0 255 _ (ch_no Hb.out)).mono ?_
      rintro e w' ⟨rfl, rfl⟩
      go_wp2
      go_ret
      exact ⟨ret_int (if_neg fun h => Hb.out h.2).symm, rfl⟩
  · have Ha := Lib.hid ha
    clear ha
    go_enter Try.func19, Try.ntmps19
    go_wp2_with fail
    refine (inS_no a 0 255 _ (ch_no Ha.out)).mono ?_
    rintro e w' ⟨rfl, rfl⟩
    go_wp2
    go_ret
    exact ⟨ret_int (if_neg fun h => Ha.out h.1).symm, rfl⟩
end Go.Proofs.Ytjkencblbegpoaa
