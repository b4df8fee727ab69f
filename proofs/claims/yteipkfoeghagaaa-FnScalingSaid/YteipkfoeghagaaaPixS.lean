/- The contracts of spec.ChannelOf, spec.MakePixel, spec.Over, spec.Fade. No statement is proved here. -/
import Derived.Test.YteipkfoeghagaaaBase
import Derived.Test.YteipkfoeghagaaaRectC
import Derived.Test.YteipkfoeghagaaaPixM
import Derived.Test.YteipkfoeghagaaaProg
import Derived.WalkKit
import Derived.ProofKit
import Derived.OpenShut
import Derived.WalkLawsBesides
import Derived.WalkSpells
import Derived.ShutString
import Derived.ChangeOld
import Derived.Below
import Derived.Lib.Hide
import Derived.Laws.BitsAllLaws
import Derived.Lib.QuoteBits
namespace Go.Proofs.Yteipkfoeghagaaa
open Go.RowKit
theorem mk_yes {a r g b : Int} (ha : chOk a) (hr : chOk r) (hg : chOk g) (hb : chOk b) : mkPix a r g b = pack4 a r g b := if_pos ⟨ha, hr, hg, hb⟩
theorem mkS_in (a r g b : Int) (ha : chOk a) (hr : chOk r) (hg : chOk g) (hb : chOk b) (w : World) :
    Calls Try.prog 46 #[.int .i64 a, .int .i64 r, .int .i64 g, .int .i64 b] w fun e w' => e = .returned (.int .i64 (mkPix a r g b)) ∧ w = w' := by
  have Hn : Hid (mkPix a r g b = pack4 a r g b) := mk_yes ha hr hg hb
  obtain ⟨a0, a1⟩ := ha
  obtain ⟨r0, r1⟩ := hr
  obtain ⟨g0, g1⟩ := hg
  obtain ⟨b0, b1⟩ := hb
  go_enter Try.func46, Try.ntmps46
  go_wp2_with fail
  refine (inS_yes _ 0 255 _ (by omega) (by omega)).mono ?_
  rintro e w' ⟨rfl, rfl⟩
  go_wp2_with fail
  refine (inS_yes _ 0 255 _ (by omega) (by omega)).mono ?_
  rintro e w' ⟨rfl, rfl⟩
  go_wp2_with fail
  refine (inS_yes _ 0 255 _ (by omega) (by omega)).mono ?_
  rintro e w' ⟨rfl, rfl⟩
  go_wp2_with fail
  refine (inS_yes _ 0 255 _ (by omega) (by omega)).mono ?_
  rintro e w' ⟨rfl, rfl⟩
  go_wp2
  go_ret
  exact ⟨ret_int (Hn.out.trans rfl).symm, rfl⟩
end Go.Proofs.Yteipkfoeghagaaa
