/- The contracts of the small functions over pixels (impl and spec): isPixel, Part, ChannelOf of spec, packed, unpacked. No statement is proved here. -/
import Derived.Test.YtaggldhlnjbnhaaRectC
import Derived.Test.YtaggldhlnjbnhaaPixM
import Derived.Test.YtaggldhlnjbnhaaProg
import Derived.WalkKit
import Derived.ProofKit
import Derived.OpenShut
import Derived.WalkLawsBesides
import Derived.WalkSpells
import Derived.ShutString
import Derived.ChangeOld
import Derived.Below
import Derived.Lib.Hide
import Derived.Laws.BitsAllLaws
import Derived.Lib.QuoteBits
namespace Go.Proofs.Ytaggldhlnjbnhaa
open Go.RowKit
theorem pixI_yes (p : Int) (h : pixOk p) (w : World) :
    Calls Try.prog 61 #[.int .i64 p] w fun e w' => e = .returned (.bool true) ∧ w = w' := by
  go_enter Try.func61, Try.ntmps61
  go_wp2_with fail
  refine (inI_yes p 0 4294967295 _ h.1 h.2).mono ?_
  rintro e w' ⟨rfl, rfl⟩
  go_wp2
  go_ret
  exact ⟨rfl, rfl⟩
theorem pixI_no (p : Int) (h : ¬ pixOk p) (w : World) :
    Calls Try.prog 61 #[.int .i64 p] w fun e w' => e = .returned (.bool false) ∧ w = w' := by
  have h' : p < 0 ∨ 4294967295 < p := by unfold pixOk at h; omega
  have H := Lib.hid h'
  clear h h'
  go_enter Try.func61, Try.ntmps61
  go_wp2_with fail
  refine (inI_no p 0 4294967295 _ H.out).mono ?_
  rintro e w' ⟨rfl, rfl⟩
  go_wp2
  go_ret
  exact ⟨rfl, rfl⟩
theorem pixS_yes (p : Int) (h : pixOk p) (w : World) :
    Calls Try.prog 59 #[.int .i64 p] w fun e w' => e = .returned (.bool true) ∧ w = w' := by
  go_enter Try.func59, Try.ntmps59
  go_wp2_with fail
  refine (inS_yes p 0 4294967295 _ h.1 h.2).mono ?_
  rintro e w' ⟨rfl, rfl⟩
  go_wp2
  go_ret
  exact ⟨rfl, rfl⟩
theorem pixS_no (p : Int) (h : ¬ pixOk p) (w : World) :
    Calls Try.prog 59 #[.int .i64 p] w fun e w' => e = .returned (.bool false) ∧ w = w' := by
  have h' : p < 0 ∨ 4294967295 < p := by unfold pixOk at h; omega
  have H := Lib.hid h'
  clear h h'
  go_enter Try.func59, Try.ntmps59
  go_wp2_with fail
  refine (inS_no p 0 4294967295 _ H.out).mono ?_
  rintro e w' ⟨rfl, rfl⟩
  go_wp2
  go_ret
  exact ⟨rfl, rfl⟩
theorem ch_no {a : Int} (h : ¬ chOk a) : a < 0 ∨ 255 < a := by unfold chOk at h; omega
end Go.Proofs.Ytaggldhlnjbnhaa
