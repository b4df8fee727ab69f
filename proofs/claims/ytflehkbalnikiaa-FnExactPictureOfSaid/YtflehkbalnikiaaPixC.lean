/- The contracts of the small functions over pixels (impl and spec): isPixel, Part, ChannelOf of spec, packed, unpacked. No statement is proved here. -/
import Derived.Test.YtflehkbalnikiaaMA
import Derived.Test.YtflehkbalnikiaaPixM
import Derived.Test.YtflehkbalnikiaaProg
import Derived.WalkKit
import Derived.ProofKit
import Derived.OpenShut
import Derived.WalkLawsBesides
import Derived.WalkSpells
import Derived.ShutString
import Derived.ChangeOld
import Derived.Below
import Derived.Lib.Hide
import Derived.Laws.BitsAllLaws
import Derived.Lib.QuoteBits
namespace Go.Proofs.Ytflehkbalnikiaa
open Go.RowKit
theorem pixI_yes (p : Int) (h : pixOk p) (w : World) :
    Calls Try.prog 111 #[.int .i64 p] w fun e w' => e = .returned (.bool true) ∧ w = w' := by
  go_enter Try.func111, Try.ntmps111
  go_wp2_with fail
  refine (inI_yes p 0 4294967295 _ h.1 h.2).mono ?_
  rintro e w' ⟨rfl, rfl⟩
  go_wp2
  go_ret
  exact ⟨rfl, rfl⟩
theorem pixI_no (p : Int) (h : ¬ pixOk p) (w : World) :
    Calls Try.prog 111 #[.int .i64 p] w fun e w' => e = .returned (.bool false) ∧ w = w' := by
  have h' : p < 0 ∨ 4294967295 < p := by unfold pixOk at h; omega
  have H := Lib.hid h'
  clear h h'
  go_enter Try.func111, Try.ntmps111
  go_wp2_with fail
  refine (inI_no p 0 4294967295 _ H.out).mono ?_
  rintro e w' ⟨rfl, rfl⟩
  go_wp2
  go_ret
  exact ⟨rfl, rfl⟩
theorem pixS_yes (p : Int) (h : pixOk p) (w : World) :
    Calls Try.prog 100 #[.int .i64 p] w fun e w' => e = .returned (.bool true) ∧ w = w' := by
  go_enter Try.func100, Try.ntmps100
  go_wp2_with fail
  refine (inS_yes p 0 4294967295 _ h.1 h.2).mono ?_
  rintro e w' ⟨rfl, rfl⟩
  go_wp2
  go_ret
  exact ⟨rfl, rfl⟩
theorem pixS_no (p : Int) (h : ¬ pixOk p) (w : World) :
    Calls Try.prog 100 #[.int .i64 p] w fun e w' => e = .returned (.bool false) ∧ w = w' := by
  have h' : p < 0 ∨ 4294967295 < p := by unfold pixOk at h; omega
  have H := Lib.hid h'
  clear h h'
  go_enter Try.func100, Try.ntmps100
  go_wp2_with fail
  refine (inS_no p 0 4294967295 _ H.out).mono ?_
  rintro e w' ⟨rfl, rfl⟩
  go_wp2
  go_ret
  exact ⟨rfl, rfl⟩
theorem ch_no {a : Int} (h : ¬ chOk a) : a < 0 ∨ 255 < a := by unfold chOk at h; omega
theorem partI_ok (a b : Int) (ha : chOk a) (hb : chOk b) (w : World) :
    Calls Try.prog 113 #[.int .i64 a, .int .i64 b] w fun e w' => e = .returned (.int .i64 (pxPart a b)) ∧ w = w' := by
  obtain ⟨m0, m1⟩ := mul_bd ha hb
  have Ha := Lib.hid ha
  have Hb := Lib.hid hb
  clear ha hb
  go_enter Try.func113, Try.ntmps113
  go_wp2_with fail
  refine (inI_yes a 0 255 _ Ha.out.1 Ha.out.2).mono ?_
  rintro e w' ⟨rfl, rfl⟩
  go_wp2_with fail
  refine (inI_yes b 0 255 _ Hb.out.1 Hb.out.2).mono ?_
  rintro e w' ⟨rfl, rfl⟩
  go_wp2
  go_ret
  exact ⟨rfl, rfl⟩
theorem partS_ok (a b : Int) (ha : chOk a) (hb : chOk b) (w : World) :
    Calls Try.prog 105 #[.int .i64 a, .int .i64 b] w fun e w' => e = .returned (.int .i64 (pxPart a b)) ∧ w = w' := by
  obtain ⟨m0, m1⟩ := mul_bd ha hb
  have Ha := Lib.hid ha
  have Hb := Lib.hid hb
  clear ha hb
  go_enter Try.func105, Try.ntmps105
  go_wp2_with fail
  refine (inS_yes a 0 255 _ Ha.out.1 Ha.out.2).mono ?_
  rintro e w' ⟨rfl, rfl⟩
  go_wp2_with fail
  refine (inS_yes b 0 255 _ Hb.out.1 Hb.out.2).mono ?_
  rintro e w' ⟨rfl, rfl⟩
  go_wp2
  go_ret
  exact ⟨rfl, rfl⟩
end Go.Proofs.Ytflehkbalnikiaa
