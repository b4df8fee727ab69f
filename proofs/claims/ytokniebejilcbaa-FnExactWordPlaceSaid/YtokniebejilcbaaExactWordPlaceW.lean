/- The walk of the law FnExactWordPlace: it returns true for all integers. -/
import Derived.Test.YtokniebejilcbaaMAv123
import Derived.Test.YtokniebejilcbaaMBv12
import Derived.Test.YtokniebejilcbaaMBv012
import Derived.Test.YtokniebejilcbaaProg
import Derived.WalkKit
import Derived.ProofKit
import Derived.OpenShut
import Derived.WalkLawsBesides
import Derived.WalkSpells
import Derived.ShutString
import Derived.ChangeOld
import Derived.Below
import Derived.Lib.Hide
import Derived.BigQuiet
import Derived.Deep.QuietTactic
import Derived.Maps.AppendAt
import Derived.Deep.OwnRows
import Derived.Handy
import Derived.Deep.Draws
import Derived.OwnWalk
import Derived.Deep.AppendLies
import Derived.Deep.LoopGhost
import Derived.Deep.Onto
import Derived.Laws.BitsAllLaws
import Derived.Lib.QuoteBits
import Derived.Test.YtokniebejilcbaaShelf
import Derived.Laws.CopyOwn
import Derived.Deep.RegionLaw
import Derived.Deep.RegionHeld3
import Derived.Deep.DeepCutAuto
import Derived.Great.BuildSlice
import Derived.Deep.MidRow
import Derived.Deep.WholeRow
import Derived.Laws.AppendOwn
namespace Go.Proofs.Ytokniebejilcbaa
open Go.RowKit
theorem walk_FnExactWordPlace (W : Int) (_ : (Lit.int .i64 W).wf = true) (H : Int) (_ : (Lit.int .i64 H).wf = true) (l : Int) (_ : (Lit.int .i64 l).wf = true) (x : Int) (_ : (Lit.int .i64 x).wf = true) (y : Int) (_ : (Lit.int .i64 y).wf = true) (w : World) :
  Calls Try.prog 4 #[.int .i64 W, .int .i64 H, .int .i64 l, .int .i64 x, .int .i64 y] w fun e w' => e = .returned (.bool true) ∧ Below w.heap.size w w' := by
 have hS := fun V => wplS W H l x y V
 have hI := fun V => wplI W H l x y V
 unfold IntIs at hS
 unfold IntBe at hI
 obtain ⟨q, hq⟩ : ∃ q, q = wpl W H l x y := ⟨_, rfl⟩
 rw [← hq] at hS hI
 have HS := Lib.hid hS
 have HI := Lib.hid hI
 clear hS hI hq
 go_enter Try.func4, Try.ntmps4
 go_wp2_with fail
 refine (HS.out _).mono ?_
 rintro e w1 ⟨rfl, rfl⟩
 go_wp2_with fail
 refine (HI.out _).mono ?_
 rintro e w1 ⟨rfl, hb⟩
 go_wp2_with fail
 go_ret
 exact ⟨rfl, hb⟩
end Go.Proofs.Ytokniebejilcbaa
