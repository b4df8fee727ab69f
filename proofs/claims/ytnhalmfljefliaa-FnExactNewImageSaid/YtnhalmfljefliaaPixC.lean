/- The contracts of the small functions over pixels (impl and spec): isPixel, Part, ChannelOf of spec, packed, unpacked. No statement is proved here. -/
import Derived.Test.YtnhalmfljefliaaRectC
import Derived.Test.YtnhalmfljefliaaPixM
namespace Go.Proofs.Ytnhalmfljefliaa
open Go.RowKit


theorem pixI_yes (p : Int) (h : pixOk p) (w : World) :
    Calls Try.prog 66 #[.int .i64 p] w fun e w' => e = .returned (.bool true) ∧ w = w' := by
  go_enter Try.func66, Try.ntmps66
  go_wp2_with fail
  refine (inI_yes p 0 4294967295 _ h.1 h.2).mono ?_
  rintro e w' ⟨rfl, rfl⟩
  go_wp2
  go_ret
  exact ⟨rfl, rfl⟩
theorem pixI_no (p : Int) (h : ¬ pixOk p) (w : World) :
    Calls Try.prog 66 #[.int .i64 p] w fun e w' => e = .returned (.bool false) ∧ w = w' := by
  have h' : p < 0 ∨ 4294967295 < p := by unfold pixOk at h; omega
  have H := Lib.hid h'
  clear h h'
  go_enter Try.func66, Try.ntmps66
  go_wp2_with fail
  refine (inI_no p 0 4294967295 _ H.out).mono ?_
  rintro e w' ⟨rfl, rfl⟩
  go_wp2
  go_ret
  exact ⟨rfl, rfl⟩

theorem pixS_yes (p : Int) (h : pixOk p) (w : World) :
    Calls Try.prog 48 #[.int .i64 p] w fun e w' => e = .returned (.bool true) ∧ w = w' := by
  go_enter Try.func48, Try.ntmps48
  go_wp2_with fail
  refine (inS_yes p 0 4294967295 _ h.1 h.2).mono ?_
  rintro e w' ⟨rfl, rfl⟩
  go_wp2
  go_ret
  exact ⟨rfl, rfl⟩
theorem pixS_no (p : Int) (h : ¬ pixOk p) (w : World) :
    Calls Try.prog 48 #[.int .i64 p] w fun e w' => e = .returned (.bool false) ∧ w = w' := by
  have h' : p < 0 ∨ 4294967295 < p := by unfold pixOk at h; omega
  have H := Lib.hid h'
  clear h h'
  go_enter Try.func48, Try.ntmps48
  go_wp2_with fail
  refine (inS_no p 0 4294967295 _ H.out).mono ?_
  rintro e w' ⟨rfl, rfl⟩
  go_wp2
  go_ret
  exact ⟨rfl, rfl⟩
theorem ch_no {a : Int} (h : ¬ chOk a) : a < 0 ∨ 255 < a := by unfold chOk at h; omega
end Go.Proofs.Ytnhalmfljefliaa
